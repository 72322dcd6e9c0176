/- Texts joined: Comp. -/
import Derived.Test.YtckbhlnncokigaaGreatJV09
/- computed: the value of an operator, the reference's. -/
namespace Go.Proofs.YtckbhlnncokigaaGreat
open Go.RowKit

/-- The value of an operator, by those of its arguments. -/
def compV (op : Int) (l : List Int) : Int :=
  if op = 3 then (l.getD 0 0 + l.getD 1 0) % 1000
  else if op = 4 then (l.getD 0 0 - l.getD 1 0 + 1000) % 1000
  else if op = 5 then (l.getD 0 0 * l.getD 1 0) % 1000
  else if op = 6 then tr (l.getD 0 0 < l.getD 1 0)
  else if op = 7 then tr (l.getD 0 0 = l.getD 1 0)
  else if op = 8 then tr (l.getD 0 0 = 0)
  else if l.getD 0 0 ≠ 0 then l.getD 1 0 else l.getD 2 0
def V999 (x : Int) : Prop := 0 ≤ x ∧ x ≤ 999
theorem comp_in {op : Int} {l : List Int} (h : ∀ x ∈ l, V999 x) : V999 (compV op l) := by
  have hd : ∀ i, V999 (l.getD i 0) := fun i => by
    rw [List.getD_eq_getElem?_getD]
    cases e : l[i]? with
    | none => simp [V999]
    | some b => exact h b (List.mem_of_getElem? e)
  have h0 := hd 0
  have h1 := hd 1
  have h2 := hd 2
  unfold compV
  generalize l.getD 0 0 = x at *
  generalize l.getD 1 0 = y at *
  generalize l.getD 2 0 = z at *
  unfold V999 at *
  repeat' split
  all_goals first | omega | exact ⟨(tr_in _).1, by have := (tr_in (x < y)).2; omega⟩ | exact ⟨(tr_in _).1, by have := (tr_in (x = y)).2; omega⟩ | exact ⟨(tr_in _).1, by have := (tr_in (x = 0)).2; omega⟩

/-- The numbers l lie at block g from o on. -/
def IntsAt (w : World) (g o : Nat) (l : List Int) : Prop := ∀ i x, l[i]? = some x → w.cell? ⟨g, o + i, none⟩ = some (.int .i64 x)

theorem bdrewN3 {B : Nat} {a w : World} (h : Below B a w) (n : Nat) : Below B a (w.drewN n) := ⟨h.os, h.tape, h.output, h.size, h.block⟩
theorem r_truth_e' (x y : Int) (w : World) : Calls Tryz.prog 112 #[.bool (x == y)] w fun e w' => e = .returned (.int .i64 (tr (x = y))) ∧ w = w' := r_truth_p (x == y) (x = y) (by simp) w

set_option maxRecDepth 100000 in
set_option maxHeartbeats 4000000 in
theorem r_computed (op : Int) (l : List Int) (g o n c : Nat) (w : World) (h1 : 3 ≤ op) (h2 : op ≤ 9) (hl : (l.length : Int) = ar op) (hn : n = l.length) (hc : n ≤ c) (hm : c ≤ maxLen) (hat : IntsAt w g o l) (hv : ∀ x ∈ l, V999 x) :
    Calls Tryz.prog 61 #[.int .i64 op, .slice (some ⟨g, o, none⟩) n c] w fun e w' => e = .returned (.int .i64 (compV op l)) ∧ Below w.heap.size w w' := by
  have hcm : (c : Int) ≤ 9223372036854775807 := by unfold maxLen at hm; omega
  have hnc : (n : Int) ≤ c := by omega
  rcases (show op = 3 ∨ op = 4 ∨ op = 5 ∨ op = 6 ∨ op = 7 ∨ op = 8 ∨ op = 9 by omega) with rfl | rfl | rfl | rfl | rfl | rfl | rfl
  · obtain ⟨x, y, rfl⟩ := len_two (l := l) (by simp [ar] at hl; omega)
    obtain ⟨hx1, hx2⟩ := hv x (by simp)
    obtain ⟨hy1, hy2⟩ := hv y (by simp)
    have c0 := hat 0 _ rfl
    have c1 := hat 1 _ rfl
    simp only [List.length_cons, List.length_nil] at hn
    subst hn
    simp only [Nat.add_zero] at c0
    have HC : Hid (compV 3 [x, y] = (x + y) % 1000) := hid rfl
    clear hat hv hl
    go_enter Tryz.func61, Tryz.ntmps61
    go_wp2_with fail
    go_quiet (fail)
    go_wp2_with fail
    go_ret
    exact ⟨ret_int (by rw [HC.out]), bdrewN3 (Below.refl _ _) _⟩
  · obtain ⟨x, y, rfl⟩ := len_two (l := l) (by simp [ar] at hl; omega)
    obtain ⟨hx1, hx2⟩ := hv x (by simp)
    obtain ⟨hy1, hy2⟩ := hv y (by simp)
    have c0 := hat 0 _ rfl
    have c1 := hat 1 _ rfl
    simp only [List.length_cons, List.length_nil] at hn
    subst hn
    simp only [Nat.add_zero] at c0
    have HC : Hid (compV 4 [x, y] = (x - y + 1000) % 1000) := hid rfl
    clear hat hv hl
    go_enter Tryz.func61, Tryz.ntmps61
    go_wp2_with fail
    go_quiet (fail)
    go_wp2_with fail
    go_ret
    exact ⟨ret_int (by rw [HC.out]), bdrewN3 (Below.refl _ _) _⟩
  · obtain ⟨x, y, rfl⟩ := len_two (l := l) (by simp [ar] at hl; omega)
    obtain ⟨hx1, hx2⟩ := hv x (by simp)
    obtain ⟨hy1, hy2⟩ := hv y (by simp)
    have c0 := hat 0 _ rfl
    have c1 := hat 1 _ rfl
    simp only [List.length_cons, List.length_nil] at hn
    subst hn
    simp only [Nat.add_zero] at c0
    have HC : Hid (compV 5 [x, y] = (x * y) % 1000) := hid rfl
    have hm1 : 0 ≤ x * y := Int.mul_nonneg hx1 hy1
    have hm2 : x * y ≤ 998001 := Int.le_trans (Int.mul_le_mul hx2 hy2 (by omega) (by omega)) (by decide)
    clear hat hv hl
    go_enter Tryz.func61, Tryz.ntmps61
    go_wp2_with fail
    go_quiet (fail)
    go_wp2_with fail
    go_ret
    exact ⟨ret_int (by rw [HC.out]), bdrewN3 (Below.refl _ _) _⟩
  · obtain ⟨x, y, rfl⟩ := len_two (l := l) (by simp [ar] at hl; omega)
    obtain ⟨hx1, hx2⟩ := hv x (by simp)
    obtain ⟨hy1, hy2⟩ := hv y (by simp)
    have c0 := hat 0 _ rfl
    have c1 := hat 1 _ rfl
    simp only [List.length_cons, List.length_nil] at hn
    subst hn
    simp only [Nat.add_zero] at c0
    have HC : Hid (compV 6 [x, y] = tr (x < y)) := hid rfl
    clear hat hv hl
    go_enter Tryz.func61, Tryz.ntmps61
    go_wp2_with fail
    go_quiet (first | (go_at_call 112; refine Calls.quiet_of_same (r_truth_q _ _)))
    go_wp2_with fail
    generalize tr (x < y) = t1 at HC ⊢
    go_ret
    exact ⟨ret_int (by rw [HC.out]), bdrewN3 (Below.refl _ _) _⟩
  · obtain ⟨x, y, rfl⟩ := len_two (l := l) (by simp [ar] at hl; omega)
    obtain ⟨hx1, hx2⟩ := hv x (by simp)
    obtain ⟨hy1, hy2⟩ := hv y (by simp)
    have c0 := hat 0 _ rfl
    have c1 := hat 1 _ rfl
    simp only [List.length_cons, List.length_nil] at hn
    subst hn
    simp only [Nat.add_zero] at c0
    have HC : Hid (compV 7 [x, y] = tr (x = y)) := hid rfl
    clear hat hv hl
    go_enter Tryz.func61, Tryz.ntmps61
    go_wp2_with fail
    go_quiet (first | (go_at_call 112; refine Calls.quiet_of_same (r_truth_e _ _ _)))
    go_wp2_with fail
    generalize tr (x = y) = t1 at HC ⊢
    go_ret
    exact ⟨ret_int (by rw [HC.out]), bdrewN3 (Below.refl _ _) _⟩
  · obtain ⟨x, rfl⟩ := len_one (l := l) (by simp [ar] at hl; omega)
    obtain ⟨hx1, hx2⟩ := hv x (by simp)
    have c0 := hat 0 _ rfl
    simp only [List.length_cons, List.length_nil] at hn
    subst hn
    simp only [Nat.add_zero] at c0
    have HC : Hid (compV 8 [x] = tr (x = 0)) := hid rfl
    clear hat hv hl
    go_enter Tryz.func61, Tryz.ntmps61
    go_wp2_with fail
    refine (r_truth_e' _ _ _).mono ?_
    rintro e w2 ⟨rfl, rfl⟩
    generalize tr (x = 0) = t1 at HC ⊢
    go_wp2_with fail
    go_ret
    exact ⟨ret_int (by rw [HC.out]), Below.refl _ _⟩
  · obtain ⟨x, y, z, rfl⟩ := len_three (l := l) (by simp [ar] at hl; omega)
    obtain ⟨hx1, hx2⟩ := hv x (by simp)
    have c0 := hat 0 _ rfl
    have c1 := hat 1 _ rfl
    have c2 := hat 2 _ rfl
    simp only [List.length_cons, List.length_nil] at hn
    subst hn
    simp only [Nat.add_zero] at c0
    have HC : Hid (compV 9 [x, y, z] = if x ≠ 0 then y else z) := hid rfl
    clear hat hv hl
    by_cases hx : x = 0
    · subst hx
      go_enter Tryz.func61, Tryz.ntmps61
      go_wp2_with fail
      go_ret
      exact ⟨ret_int (by rw [HC.out, if_neg (by simp)]), Below.refl _ _⟩
    · have hx' : (x != 0) = true := by simpa using hx
      have HX := hid hx
      clear hx
      go_enter Tryz.func61, Tryz.ntmps61
      go_wp2_with fail
      go_ret
      exact ⟨ret_int (by rw [HC.out, if_pos HX.out]), Below.refl _ _⟩
end Go.Proofs.YtckbhlnncokigaaGreat
