/- Texts joined: Comp, Rul, Parts. -/
import Derived.Test.YtkgciohebloffaaGreatJS11
import Derived.Test.YtkgciohebloffaaGreatJS12
/- computed: the value of an operator, the reference's. -/
namespace Go.Proofs.YtkgciohebloffaaGreat
open Go.RowKit

/-- The value of an operator, by those of its arguments. -/
def compV (op : Int) (l : List Int) : Int :=
  if op = 3 then (l.getD 0 0 + l.getD 1 0) % 1000
  else if op = 4 then (l.getD 0 0 - l.getD 1 0 + 1000) % 1000
  else if op = 5 then (l.getD 0 0 * l.getD 1 0) % 1000
  else if op = 6 then tr (l.getD 0 0 < l.getD 1 0)
  else if op = 7 then tr (l.getD 0 0 = l.getD 1 0)
  else if op = 8 then tr (l.getD 0 0 = 0)
  else if l.getD 0 0 ≠ 0 then l.getD 1 0 else l.getD 2 0
def V999 (x : Int) : Prop := 0 ≤ x ∧ x ≤ 999
theorem comp_in {op : Int} {l : List Int} (h : ∀ x ∈ l, V999 x) : V999 (compV op l) := by
  have hd : ∀ i, V999 (l.getD i 0) := fun i => by
    rw [List.getD_eq_getElem?_getD]
    cases e : l[i]? with
    | none => simp [V999]
    | some b => exact h b (List.mem_of_getElem? e)
  have h0 := hd 0
  have h1 := hd 1
  have h2 := hd 2
  unfold compV
  generalize l.getD 0 0 = x at *
  generalize l.getD 1 0 = y at *
  generalize l.getD 2 0 = z at *
  unfold V999 at *
  repeat' split
  all_goals first | omega | exact ⟨(tr_in _).1, by have := (tr_in (x < y)).2; omega⟩ | exact ⟨(tr_in _).1, by have := (tr_in (x = y)).2; omega⟩ | exact ⟨(tr_in _).1, by have := (tr_in (x = 0)).2; omega⟩

/-- The numbers l lie at block g from o on. -/
def IntsAt (w : World) (g o : Nat) (l : List Int) : Prop := ∀ i x, l[i]? = some x → w.cell? ⟨g, o + i, none⟩ = some (.int .i64 x)

theorem bdrewN3 {B : Nat} {a w : World} (h : Below B a w) (n : Nat) : Below B a (w.drewN n) := ⟨h.os, h.tape, h.output, h.size, h.block⟩
theorem r_truth_e' (x y : Int) (w : World) : Calls Tryz.prog 112 #[.bool (x == y)] w fun e w' => e = .returned (.int .i64 (tr (x = y))) ∧ w = w' := r_truth_p (x == y) (x = y) (by simp) w

set_option maxRecDepth 100000 in
set_option maxHeartbeats 4000000 in
theorem r_computed (op : Int) (l : List Int) (g o n c : Nat) (w : World) (h1 : 3 ≤ op) (h2 : op ≤ 9) (hl : (l.length : Int) = ar op) (hn : n = l.length) (hc : n ≤ c) (hm : c ≤ maxLen) (hat : IntsAt w g o l) (hv : ∀ x ∈ l, V999 x) :
    Calls Tryz.prog 61 #[.int .i64 op, .slice (some ⟨g, o, none⟩) n c] w fun e w' => e = .returned (.int .i64 (compV op l)) ∧ Below w.heap.size w w' := by
  have hcm : (c : Int) ≤ 9223372036854775807 := by unfold maxLen at hm; omega
  have hnc : (n : Int) ≤ c := by omega
  rcases (show op = 3 ∨ op = 4 ∨ op = 5 ∨ op = 6 ∨ op = 7 ∨ op = 8 ∨ op = 9 by omega) with rfl | rfl | rfl | rfl | rfl | rfl | rfl
  · obtain ⟨x, y, rfl⟩ := len_two (l := l) (by simp [ar] at hl; omega)
    obtain ⟨hx1, hx2⟩ := hv x (by simp)
    obtain ⟨hy1, hy2⟩ := hv y (by simp)
    have c0 := hat 0 _ rfl
    have c1 := hat 1 _ rfl
    simp only [List.length_cons, List.length_nil] at hn
    subst hn
    simp only [Nat.add_zero] at c0
    have HC : Hid (compV 3 [x, y] = (x + y) % 1000) := hid rfl
    clear hat hv hl
    go_enter Tryz.func61, Tryz.ntmps61
    go_wp2_with fail
    go_quiet (fail)
    go_wp2_with fail
    go_ret
    exact ⟨ret_int (by rw [HC.out]), bdrewN3 (Below.refl _ _) _⟩
  · obtain ⟨x, y, rfl⟩ := len_two (l := l) (by simp [ar] at hl; omega)
    obtain ⟨hx1, hx2⟩ := hv x (by simp)
    obtain ⟨hy1, hy2⟩ := hv y (by simp)
    have c0 := hat 0 _ rfl
    have c1 := hat 1 _ rfl
    simp only [List.length_cons, List.length_nil] at hn
    subst hn
    simp only [Nat.add_zero] at c0
    have HC : Hid (compV 4 [x, y] = (x - y + 1000) % 1000) := hid rfl
    clear hat hv hl
    go_enter Tryz.func61, Tryz.ntmps61
    go_wp2_with fail
    go_quiet (fail)
    go_wp2_with fail
    go_ret
    exact ⟨ret_int (by rw [HC.out]), bdrewN3 (Below.refl _ _) _⟩
  · obtain ⟨x, y, rfl⟩ := len_two (l := l) (by simp [ar] at hl; omega)
    obtain ⟨hx1, hx2⟩ := hv x (by simp)
    obtain ⟨hy1, hy2⟩ := hv y (by simp)
    have c0 := hat 0 _ rfl
    have c1 := hat 1 _ rfl
    simp only [List.length_cons, List.length_nil] at hn
    subst hn
    simp only [Nat.add_zero] at c0
    have HC : Hid (compV 5 [x, y] = (x * y) % 1000) := hid rfl
    have hm1 : 0 ≤ x * y := Int.mul_nonneg hx1 hy1
    have hm2 : x * y ≤ 998001 := Int.le_trans (Int.mul_le_mul hx2 hy2 (by omega) (by omega)) (by decide)
    clear hat hv hl
    go_enter Tryz.func61, Tryz.ntmps61
    go_wp2_with fail
    go_quiet (fail)
    go_wp2_with fail
    go_ret
    exact ⟨ret_int (by rw [HC.out]), bdrewN3 (Below.refl _ _) _⟩
  · obtain ⟨x, y, rfl⟩ := len_two (l := l) (by simp [ar] at hl; omega)
    obtain ⟨hx1, hx2⟩ := hv x (by simp)
    obtain ⟨hy1, hy2⟩ := hv y (by simp)
    have c0 := hat 0 _ rfl
    have c1 := hat 1 _ rfl
    simp only [List.length_cons, List.length_nil] at hn
    subst hn
    simp only [Nat.add_zero] at c0
    have HC : Hid (compV 6 [x, y] = tr (x < y)) := hid rfl
    clear hat hv hl
    go_enter Tryz.func61, Tryz.ntmps61
    go_wp2_with fail
    go_quiet (first | (go_at_call 112; refine Calls.quiet_of_same (r_truth_q _ _)))
    go_wp2_with fail
    generalize tr (x < y) = t1 at HC ⊢
    go_ret
    exact ⟨ret_int (by rw [HC.out]), bdrewN3 (Below.refl _ _) _⟩
  · obtain ⟨x, y, rfl⟩ := len_two (l := l) (by simp [ar] at hl; omega)
    obtain ⟨hx1, hx2⟩ := hv x (by simp)
    obtain ⟨hy1, hy2⟩ := hv y (by simp)
    have c0 := hat 0 _ rfl
    have c1 := hat 1 _ rfl
    simp only [List.length_cons, List.length_nil] at hn
    subst hn
    simp only [Nat.add_zero] at c0
    have HC : Hid (compV 7 [x, y] = tr (x = y)) := hid rfl
    clear hat hv hl
    go_enter Tryz.func61, Tryz.ntmps61
    go_wp2_with fail
    go_quiet (first | (go_at_call 112; refine Calls.quiet_of_same (r_truth_e _ _ _)))
    go_wp2_with fail
    generalize tr (x = y) = t1 at HC ⊢
    go_ret
    exact ⟨ret_int (by rw [HC.out]), bdrewN3 (Below.refl _ _) _⟩
  · obtain ⟨x, rfl⟩ := len_one (l := l) (by simp [ar] at hl; omega)
    obtain ⟨hx1, hx2⟩ := hv x (by simp)
    have c0 := hat 0 _ rfl
    simp only [List.length_cons, List.length_nil] at hn
    subst hn
    simp only [Nat.add_zero] at c0
    have HC : Hid (compV 8 [x] = tr (x = 0)) := hid rfl
    clear hat hv hl
    go_enter Tryz.func61, Tryz.ntmps61
    go_wp2_with fail
    refine (r_truth_e' _ _ _).mono ?_
    rintro e w2 ⟨rfl, rfl⟩
    generalize tr (x = 0) = t1 at HC ⊢
    go_wp2_with fail
    go_ret
    exact ⟨ret_int (by rw [HC.out]), Below.refl _ _⟩
  · obtain ⟨x, y, z, rfl⟩ := len_three (l := l) (by simp [ar] at hl; omega)
    obtain ⟨hx1, hx2⟩ := hv x (by simp)
    have c0 := hat 0 _ rfl
    have c1 := hat 1 _ rfl
    have c2 := hat 2 _ rfl
    simp only [List.length_cons, List.length_nil] at hn
    subst hn
    simp only [Nat.add_zero] at c0
    have HC : Hid (compV 9 [x, y, z] = if x ≠ 0 then y else z) := hid rfl
    clear hat hv hl
    by_cases hx : x = 0
    · subst hx
      go_enter Tryz.func61, Tryz.ntmps61
      go_wp2_with fail
      go_ret
      exact ⟨ret_int (by rw [HC.out, if_neg (by simp)]), Below.refl _ _⟩
    · have hx' : (x != 0) = true := by simpa using hx
      have HX := hid hx
      clear hx
      go_enter Tryz.func61, Tryz.ntmps61
      go_wp2_with fail
      go_ret
      exact ⟨ret_int (by rw [HC.out, if_pos HX.out]), Below.refl _ _⟩
end Go.Proofs.YtkgciohebloffaaGreat
/- The rules of simplification, plain: on an operator and its simple arguments. -/
namespace Go.Proofs.YtkgciohebloffaaGreat
open Go.RowKit

/-- The first of a row is the number v. -/
def isNF (f : F) (v : Int) : Bool := match f with | .cons op n _ _ _ => op == 1 && n == v | .nil => false
def opF (f : F) : Int := match f with | .cons op _ _ _ _ => op | .nil => 0
def argF (f : F) : F := match f with | .cons _ _ _ a _ => a | .nil => .nil
def numF (v : Int) : F := .cons 1 v ⟨#[]⟩ .nil .nil
def notF (f : F) : F := .cons 8 0 ⟨#[]⟩ (f.take 1) .nil
def allNum : F → Bool | .nil => true | .cons op _ _ _ r => op == 1 && allNum r
def numsF : F → List Int | .nil => [] | .cons _ n _ _ r => n :: numsF r
/-- The first of two rows are equal. -/
def eqF (f g : F) : Bool := match f, g with
  | .cons op n s a _, .cons op' n' s' a' _ => sameE op n s a op' n' s' a'
  | _, _ => false

def rule1 (op : Int) (a : F) : Option F := if (a.len == 0 || !allNum a) = true then none else some (numF (compV op (numsF a)))
def rule2 (op : Int) (a : F) : Option F :=
  if ((op == 3 || op == 4) && isNF (a.drop 1) 0 || op == 5 && isNF (a.drop 1) 1) = true then some (a.take 1)
  else if (op == 3 && isNF a 0 || op == 5 && isNF a 1) = true then some ((a.drop 1).take 1)
  else if (op == 5 && (isNF a 0 || isNF (a.drop 1) 0)) = true then some (numF 0) else none
def rule3 (op : Int) (a : F) : Option F := if ((op == 4 || op == 6 || op == 7) && eqF a (a.drop 1)) = true then some (numF (if (op == 7) = true then 1 else 0)) else none
def rule4 (op : Int) (a : F) : Option F := if (op == 6 && (isNF (a.drop 1) 0 || isNF a 999)) = true then some (numF 0) else none
def rule5 (op : Int) (a : F) : Option F :=
  if (op != 9) = true then none else if isNF a 0 = true then some ((a.drop 2).take 1) else if (opF a == 1 || eqF (a.drop 1) (a.drop 2)) = true then some ((a.drop 1).take 1) else none
def rule6 (op : Int) (a : F) : Option F :=
  if (op == 7 && isNF (a.drop 1) 0) = true then some (notF a)
  else if (op == 7 && isNF a 0) = true then some (notF (a.drop 1))
  else if (op == 8 && opF a == 8 && opF (argF a) == 8) = true then some ((argF a).take 1) else none
/-- The first rule that applies. -/
def ruleF (op : Int) (a : F) : Option F := (rule1 op a).or ((rule2 op a).or ((rule3 op a).or ((rule4 op a).or ((rule5 op a).or (rule6 op a)))))
/-- An expression to which rules are applied k times at most. -/
def fixF : Nat → F → F
  | 0, f => f
  | k + 1, .cons op n s a r => match ruleF op a with | none => .cons op n s a r | some g => fixF k g
  | _ + 1, .nil => .nil
/-- Expressions in a row, simplified. -/
def simF : F → F
  | .nil => .nil
  | .cons op n s a r => (fixF (a.size + 2) (.cons op n s (simF a) .nil)).app (simF r)
end Go.Proofs.YtkgciohebloffaaGreat
/- parts: an expression and all in it, each one behind its arguments. -/
namespace Go.Proofs.YtkgciohebloffaaGreat
open Go.RowKit

/-- Operator, number and name of all expressions of a row, each behind those of its arguments. -/
def ptF : F → List (Int × Int × ByteArray)
  | .nil => []
  | .cons op n s a r => ptF a ++ (op, n, s) :: ptF r
def ptE (op n : Int) (s : ByteArray) (a : F) : List (Int × Int × ByteArray) := ptF a ++ [(op, n, s)]
theorem ptF_cons (op n : Int) (s : ByteArray) (a r : F) : ptF (.cons op n s a r) = ptE op n s a ++ ptF r := by simp [ptF, ptE]
theorem ptF_length : ∀ f : F, (ptF f).length = f.size
  | .nil => rfl
  | .cons _ _ _ a r => by simp [ptF, F.size, ptF_length a, ptF_length r]; omega
theorem ptE_length (op n : Int) (s : ByteArray) (a : F) : (ptE op n s a).length = a.size + 1 := by simp [ptE, ptF_length]
/-- The cells xs are those of expressions with these operators, numbers and names. -/
def PtOk : List Value → List (Int × Int × ByteArray) → Prop
  | xs, [] => xs = []
  | xs, x :: r => ∃ q l c ys, xs = .int .i64 x.1 :: .int .i64 x.2.1 :: .string x.2.2 :: .slice q l c :: ys ∧ PtOk ys r
theorem PtOk.length : ∀ {l : List (Int × Int × ByteArray)} {xs : List Value}, PtOk xs l → xs.length = l.length * 4
  | [], _, rfl => rfl
  | _ :: _, _, ⟨_, _, _, _, rfl, h⟩ => by simp [PtOk.length h]; omega
theorem PtOk.app : ∀ {l m : List (Int × Int × ByteArray)} {xs ys : List Value}, PtOk xs l → PtOk ys m → PtOk (xs ++ ys) (l ++ m)
  | [], _, _, _, rfl, h => h
  | _ :: _, _, _, _, ⟨q, l, c, zs, rfl, h⟩, k => ⟨q, l, c, _, rfl, PtOk.app h k⟩
theorem PtOk.one : ∀ {l : List (Int × Int × ByteArray)} {xs : List Value}, PtOk xs l → ∀ u ∈ xs, u.oneCell' = true
  | [], _, rfl, u, hu => by simp at hu
  | _ :: _, _, ⟨_, _, _, ys, rfl, h⟩, u, hu => by
    simp only [List.mem_cons] at hu
    rcases hu with rfl | rfl | rfl | rfl | hu
    · rfl
    · rfl
    · rfl
    · rfl
    · exact PtOk.one h u hu
theorem PtOk.get : ∀ {l : List (Int × Int × ByteArray)} {xs : List Value}, PtOk xs l → ∀ i x, l[i]? = some x → xs[i * 4]? = some (.int .i64 x.1) ∧ xs[i * 4 + 1]? = some (.int .i64 x.2.1) ∧ xs[i * 4 + 2]? = some (.string x.2.2) ∧ ∃ q l c, xs[i * 4 + 3]? = some (.slice q l c)
  | y :: _, _, ⟨_, _, _, ys, rfl, _⟩, 0, x, hx => by simp at hx; subst hx; simp
  | _ :: _, _, ⟨_, _, _, ys, rfl, h⟩, i + 1, x, hx => by
    have := PtOk.get h i x (by simpa using hx)
    rw [show (i + 1) * 4 = i * 4 + 1 + 1 + 1 + 1 by omega]
    simpa using this

theorem ownsRow_le {w : World} {base base' : Nat} {e : TypeId} {size : Nat} {v : Value} {n : Nat} {xs : List Value} (h : w.ownsRow base e size v n xs) (hb : base' ≤ base) : w.ownsRow base' e size v n xs := by
  refine ⟨h.1, ?_⟩
  rcases h.2 with h2 | ⟨g, cap, cur, h1, h2, rest⟩
  · exact .inl h2
  · exact .inr ⟨g, cap, cur, h1, Nat.le_trans hb h2, rest⟩

/-- What holds behind k rounds. -/
def PRel (op n : Int) (s : ByteArray) (a : F) (p : Option Addr) (c : Nat) (w : World) (k : Nat) (v : Value) (wr : World) : Prop :=
  ∃ (acc : List (Int × Int × ByteArray)) (xs : List Value), ptF a = acc ++ ptF (a.drop k) ∧ PtOk xs acc ∧ wr.ownsRow (w.heap.size + 1) 28 4 v acc.length xs ∧
    wr.heap[w.heap.size]? = some (.cells #[.int .i64 op, .int .i64 n, .string s, .slice p a.len c] 28 (0, 0)) ∧ Below w.heap.size w wr ∧ w.heap.size + 1 ≤ wr.heap.size

def GotParts (op n : Int) (s : ByteArray) (a : F) (w : World) (e : Ending) (w' : World) : Prop :=
  (∃ p c xs, e = .returned (.slice p (a.size + 1) c) ∧ w'.ownsRow w.heap.size 28 4 (.slice p (a.size + 1) c) (a.size + 1) xs ∧ PtOk xs (ptE op n s a)) ∧ Below w.heap.size w w'

set_option maxRecDepth 100000 in
set_option maxHeartbeats 4000000 in
theorem r_parts_one (m : Nat) (hm : m ≤ 1000) (ih : ∀ (op n : Int) (s : ByteArray) (a : F) (p : Option Addr) (c : Nat) (fa : List Nat) (w : World), a.size < m → RdP w a p fa → a.len ≤ c → c ≤ 9223372036854775807 →
      Calls Tryz.prog 62 #[.agg #[.int .i64 op, .int .i64 n, .string s, .slice p a.len c]] w (GotParts op n s a w))
    (op n : Int) (s : ByteArray) (a : F) (p : Option Addr) (c : Nat) (fa : List Nat) (w : World) (ham : a.size ≤ m) (hp : RdP w a p fa) (hac : a.len ≤ c) (hc : c ≤ 9223372036854775807) :
    Calls Tryz.prog 62 #[.agg #[.int .i64 op, .int .i64 n, .string s, .slice p a.len c]] w (GotParts op n s a w) := by
  have HP := hid hp
  have IH := hid ih
  have hR0 : PRel op n s a p c w 0 (.slice none 0 0) (w.alloc (.cells #[.int .i64 op, .int .i64 n, .string s, .slice p a.len c] 28)) :=
    ⟨[], [], rfl, rfl, World.ownsRow_nil _ _ _ _, heap_new w _, alloc_below w _, by simp⟩
  have HR0 := hid hR0
  have hal : (a.len : Int) ≤ 9223372036854775807 := by omega
  obtain ⟨i0, hi0, hz0, hz1, hz2⟩ := info_parts info_expr
  clear hp ih hR0
  go_enter Tryz.func62, Tryz.ntmps62
  go_wp2_with fail
  go_loopw [3, 9] (fun v i wr => ∃ (k : Nat) (u : Value), k ≤ a.len ∧ i = .int .i64 k ∧ v = u ∧ PRel op n s a p c w k u wr) (fun _ i _ => a.len - (intOf i).toNat)
  case atStart => exact ⟨0, _, by omega, rfl, rfl, HR0.out⟩
  case round =>
    obtain ⟨k, v, hk, rfl, hgv, acc, xs, hacc, hpt, hown, hE, hbl, hz⟩ := hrel
    subst hgv
    have hla : acc.length ≤ a.size := by
      have h1 := congrArg List.length hacc
      rw [List.length_append, ptF_length] at h1; omega
    have HA := hid (And.intro hacc hpt)
    have HO := hid hown
    have HEb := hid hE
    have HB := hid hbl
    obtain ⟨⟨q0, q1, q2, q3⟩, f0, f1, f2, f3⟩ := blk4 hE
    have hpr : RdP wr a p fa := HP.out.ext (S := fun _ => False) (Ext.of_below hbl) (fun _ _ => id)
    clear hacc hpt hown hE hbl
    by_cases hlt : k < a.len
    · rcases hpr with ⟨h0, _⟩ | ⟨b, o, xa, fb, rfl, _, _, hcell, _, hx⟩
      · rw [h0] at hlt; simp [F.len] at hlt
      obtain ⟨op', n', s', a', p', c', fa', hdrop, x0, x1, x2, x3, hl', hc', hp', _⟩ := hx.at hlt
      have y0 := hcell _ _ x0
      have y1 := hcell _ _ x1
      have y2 := hcell _ _ x2
      have y3 := hcell _ _ x3
      simp only [← Nat.add_assoc, Nat.mul_comm 4 k] at y0 y1 y2 y3
      have hsz' : a'.size < m := by
        have := F.size_split k a hdrop; omega
      have hsum : acc.length + (a'.size + 1) ≤ a.size := by
        have h1 := congrArg List.length HA.out.1
        rw [hdrop, ptF_cons, List.length_append, List.length_append, ptE_length, ptF_length] at h1; omega
      have HD := hid hdrop
      have HP' := hid (And.intro hp' (And.intro hl' (And.intro hc' hsz')))
      clear hcell hx x0 x1 x2 x3 hp' hl' hc' hsz' hdrop
      go_wp2_with fail
      refine (IH.out op' n' s' a' p' c' fa' _ HP'.out.2.2.2 (HP'.out.1.ext (S := fun _ => False) ((Ext.refl _).alloc _) (fun _ _ => id)) HP'.out.2.1 HP'.out.2.2.1).mono ?_
      rintro e w3 ⟨⟨p3, c3, ys, rfl, hown3, hpt3⟩, hb3⟩
      have hz3 : wr.heap.size + 1 ≤ w3.heap.size := by have := hb3.size; simpa using this
      have HB3 := hid ((alloc_below wr _).trans (hb3.mono (by simp)))
      have HO3 := hid (ownsRow_ext (S := fun _ => False) HO.out (Ext.of_below HB3.out) (fun _ _ _ => id))
      obtain ⟨g3, cc3, hv3, hg3, _, _, hcell3, _⟩ := own_cells hown3 (by omega)
      injection hv3 with hv4 _ hv5
      subst hv4 hv5
      have HN3 := hid (show ∀ j u, ys[j]? = some u → w3.cell? ((⟨g3, 0, none⟩ : Addr).add j) = some u from fun j u hu => by
        have hadd : (⟨g3, 0, none⟩ : Addr).add j = ⟨g3, j, none⟩ := by unfold Addr.add; split <;> simp_all
        rw [hadd]; exact hcell3 j u hu)
      have HT3 := hid hpt3
      clear hb3 hown3 hcell3 hpt3
      go_wp2_with (at_builtin; refine wpList_append_lies _ rfl _ _ 26 rfl (w.heap.size + 1) 28 i0 _ 4 56 Tryz.underlying26 hi0 hz0 hz1 hz2 rfl (by decide) _ _ _ (by rfl) HO3.out ⟨g3, 0, none⟩ (a'.size + 1) c3 ys rfl (by rw [HT3.out.length, ptE_length]) HN3.out HT3.out.one (by omega) (by unfold maxLen; omega) (by omega) (by omega) _ rfl ?_; intro g cap w4 hown4 hgrow hat4 hlt4)
      have hne : ∀ b, b < w.heap.size + 1 → some b ≠ u3.ownBlock := fun b hb e => by have := (HO.out.lt b e.symm).1; omega
      have e4 : Ext (fun b => some b = u3.ownBlock) wr w4 := ((Ext.of_below HB3.out)).grown hgrow (fun b hb => .inl hb.symm)
      go_roundw
      case rel =>
        refine ⟨k + 1, _, by omega, by go_num, rfl, acc ++ ptE op' n' s' a', xs ++ ys, ?_, HA.out.2.app HT3.out, ?_, e4.heap HEb.out (hne _ (by omega)), ?_, Nat.le_trans hz e4.size⟩
        · rw [HA.out.1, HD.out, ptF_cons]; simp
        · rw [List.length_append, ptE_length]; exact hown4
        · exact ⟨e4.os.trans HB.out.os, e4.tape.trans HB.out.tape, e4.output.trans HB.out.output, Nat.le_trans HB.out.size e4.size, fun i hi => (e4.block i (by have := HB.out.size; omega) (hne _ (by omega))).trans (HB.out.block i hi)⟩
      case measure => simp [intOf]; omega
    · have hka : k = a.len := by omega
      have hfin : ptF a = acc := by rw [HA.out.1, F.eq_nil_of_len (f := a.drop k) (by rw [F.len_drop]; omega)]; simp [ptF]
      have hal2 : acc.length = a.size := by rw [← hfin, ptF_length]
      have HF := hid hfin
      clear hpr hfin
      subst hka
      have hne : ∀ b, b < w.heap.size + 1 → some b ≠ u3.ownBlock := fun b hb e => by have := (HO.out.lt b e.symm).1; omega
      have HNE := hid hne
      clear hne
      go_wp2_with (at_builtin; refine wpList_append_lies _ rfl _ _ 26 rfl (w.heap.size + 1) 28 i0 _ 4 56 Tryz.underlying26 hi0 hz0 hz1 hz2 rfl (by decide) _ _ _ (by rfl) (HO.out.alloc _) ⟨wr.heap.size, 0, none⟩ 1 1 [.int .i64 op, .int .i64 n, .string s, .slice p a.len c] rfl rfl (World.news_of_block (cs := #[.int .i64 op, .int .i64 n, .string s, .slice p a.len c]) (t := 28) (fr := (0, 0)) (heap_alloc_new wr _)) (by simp [Value.oneCell']) (by omega) (by unfold maxLen; omega) (by omega) (by simp; omega) _ rfl ?_; intro g cap w4 hown4 hgrow hat4 hlt4)
      have e4 : Ext (fun b => some b = u3.ownBlock) wr w4 := ((Ext.refl wr).alloc _).grown hgrow (fun b hb => .inl hb.symm)
      have HB4 : Hid (Below w.heap.size w w4) := hid ⟨e4.os.trans HB.out.os, e4.tape.trans HB.out.tape, e4.output.trans HB.out.output, Nat.le_trans HB.out.size e4.size, fun i hi => (e4.block i (by have := HB.out.size; omega) (HNE.out _ (by omega))).trans (HB.out.block i hi)⟩
      have hO4 := hid hown4
      rw [hal2] at hO4
      clear hown4 hgrow e4
      go_wp2_with fail
      go_ret
      refine ⟨⟨_, cap, _, rfl, ownsRow_le hO4.out (by omega), ?_⟩, HB4.out⟩
      have h1 := HA.out.2
      rw [← HF.out] at h1
      exact h1.app ⟨_, _, _, [], rfl, rfl⟩
theorem r_parts (m : Nat) : m ≤ 1001 → ∀ (op n : Int) (s : ByteArray) (a : F) (p : Option Addr) (c : Nat) (fa : List Nat) (w : World), a.size < m → RdP w a p fa → a.len ≤ c → c ≤ 9223372036854775807 →
      Calls Tryz.prog 62 #[.agg #[.int .i64 op, .int .i64 n, .string s, .slice p a.len c]] w (GotParts op n s a w) := by
  induction m with
  | zero => intro _ op n s a p c fa w h; omega
  | succ m ih => intro hm op n s a p c fa w h h1 h2 h3; exact r_parts_one m (by omega) (ih (by omega)) op n s a p c fa w (by omega) h1 h2 h3
set_option maxHeartbeats 1000000 in
theorem r_SizeIn (op n : Int) (s : ByteArray) (a : F) (p : Option Addr) (c : Nat) (fa : List Nat) (w : World) (ha : a.size ≤ 1000) (h1 : RdP w a p fa) (h2 : a.len ≤ c) (h3 : c ≤ 9223372036854775807) :
    Calls Tryz.prog 18 #[.agg #[.int .i64 op, .int .i64 n, .string s, .slice p a.len c]] w fun e w' => e = .returned (.int .i64 ((a.size + 1 : Nat) : Int)) ∧ Below w.heap.size w w' := by
  have H1 := hid h1
  clear h1
  go_enter Tryz.func18, Tryz.ntmps18
  go_wp2_with fail
  refine (r_parts (a.size + 1) (by omega) op n s a p c fa _ (by omega) (H1.out.ext (S := fun _ => False) ((Ext.refl _).alloc _) (fun _ _ => id)) h2 h3).mono ?_
  rintro e w' ⟨⟨p3, c3, ys, rfl, _, _⟩, hb⟩
  have HB := hid ((alloc_below w _).trans (hb.mono (by simp)))
  clear hb
  go_wp2_with fail
  go_ret
  exact ⟨by simp, HB.out⟩
end Go.Proofs.YtkgciohebloffaaGreat
