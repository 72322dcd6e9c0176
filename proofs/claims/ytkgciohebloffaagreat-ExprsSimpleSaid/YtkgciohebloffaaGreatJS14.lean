/- Texts joined: App, Words. -/
import Derived.Test.YtkgciohebloffaaGreatJS13
import Derived.Maps.AppendAt
import Derived.Deep.AppendLies
import Derived.Deep.Upon
import Derived.ArgAppend
import Derived.Test.YtkgciohebloffaaGreatJS10
/- append from whatever source (nil, empty or not), onto a row of the call's own or onto a slice without room; and at the walk's operation. -/
namespace Go.Proofs.YtkgciohebloffaaGreat
open Go.RowKit

/-- The cells at an address that may be none. -/
def CellsP (w : World) (p : Option Addr) (xs : List Value) : Prop := xs = [] ∨ ∃ b o, p = some ⟨b, o, none⟩ ∧ ∀ (i : Nat) v, xs[i]? = some v → w.cell? ⟨b, o + i, none⟩ = some v
theorem CellsP.ext {S : Nat → Prop} {w w' : World} {p : Option Addr} {xs : List Value} (h : CellsP w p xs) (e : Ext S w w') (hb : ∀ x, p = some x → ¬ S x.block) : CellsP w' p xs := by
  rcases h with h | ⟨b, o, rfl, h⟩
  · exact .inl h
  · exact .inr ⟨b, o, rfl, fun i v hv => e.cell_some (p := ⟨b, o + i, none⟩) (h i v hv) (hb ⟨b, o, none⟩ rfl)⟩
theorem addr_add (b o i : Nat) : (⟨b, o, none⟩ : Addr).add i = ⟨b, o + i, none⟩ := by unfold Addr.add; split <;> simp_all
theorem CellsP.own {w : World} {base : Nat} {e : TypeId} {size : Nat} {q : Option Addr} {n c : Nat} {xs : List Value} (h : w.ownsRow base e size (.slice q n c) n xs) : CellsP w q xs := by
  rcases Nat.eq_zero_or_pos n with h0 | h0
  · left; have := h.1; subst h0; simpa using this
  · obtain ⟨g, cc, hv, _, _, _, hc, _⟩ := own_cells h h0
    injection hv with e1 _ _
    exact .inr ⟨g, 0, e1, fun i v hv => by rw [Nat.zero_add]; exact hc i v hv⟩

section
variable {P : Program}
theorem run_app_none (w : World) (t ty e : TypeId) (i : TypeInfo) (ht : P.underlying t = some (.slice e)) (hi : P.info? e = some i) (base : Option Addr) (n c : Nat) (hc : n ≤ c) (q : Option Addr) (d : Nat) :
    (Builtin.append_ #[t, t] ty #[.slice base n c, .slice q 0 d]).run P w = .ok (.slice base n c) w := by
  cases q <;> cases base <;> simp [Builtin.append_, run_underlying ht, sizeOf, typeInfo, hi, Builtin.lenOf, Builtin.firstCells, hc, storeCells, loadCells, loadCellsFrom]

theorem run_app_own (w : World) (t ty e : TypeId) (i : TypeInfo) (z : Value) (size bytes : Nat) (ht : P.underlying t = some (.slice e)) (hi : P.info? e = some i) (hz : i.zero = some z) (hsize : i.size = size) (hby : i.bytes = bytes) (hzs : z.cells.size = size) (hsz : 0 < size)
    (base : Nat) (v : Value) (n : Nat) (xs : List Value) (hown : w.ownsRow base e size v n xs) (q : Option Addr) (m d : Nat) (ys : List Value) (hl : ys.length = m * size) (hq : CellsP w q ys) (h1 : ∀ u ∈ ys, u.oneCell' = true)
    (h63 : n + m ≤ maxLen) (hbytes : (n + m) * bytes ≤ 140737488355328) (hbase : base ≤ w.heap.size) :
    ∃ q' c' w', (Builtin.append_ #[t, t] ty #[v, .slice q m d]).run P w = .ok (.slice q' (n + m) c') w' ∧ w'.ownsRow base e size (.slice q' (n + m) c') (n + m) (xs ++ ys) ∧ w.grownBy w' v.ownBlock ∧
      ((Value.slice q' (n + m) c').ownBlock = v.ownBlock ∨ (Value.slice q' (n + m) c').ownBlock = some w.heap.size) := by
  rcases Nat.eq_zero_or_pos m with h0 | h0
  · subst h0
    have hys : ys = [] := List.eq_nil_of_length_eq_zero (by simpa using hl)
    subst hys
    obtain ⟨q0, c0, rfl, hc0⟩ : ∃ q0 c0, v = .slice q0 n c0 ∧ n ≤ c0 := by
      rcases hown.2 with ⟨rfl, rfl⟩ | ⟨g, cap, cur, rfl, _, _, hnc, _⟩
      · exact ⟨_, _, rfl, Nat.le_refl _⟩
      · exact ⟨_, _, rfl, hnc⟩
    exact ⟨q0, c0, w, run_app_none w t ty e i ht hi q0 n c0 hc0 q d, by simpa using hown, ⟨rfl, rfl, rfl, Nat.le_refl _, fun _ _ _ => rfl⟩, .inl rfl⟩
  · rcases hq with rfl | ⟨b, o, rfl, hq⟩
    · have : 0 < m * size := Nat.mul_pos h0 hsz
      simp at hl; omega
    · obtain ⟨g, cap, w', hr, h2, h3, h4, _⟩ := run_append_lies (P := P) w t ty base e i z size bytes ht hi hz hsize hby hzs hsz v n xs hown ⟨b, o, none⟩ m d ys hl (fun j u hu => by rw [addr_add]; exact hq j u hu) h1 h0 h63 hbytes hbase _ rfl
      refine ⟨_, cap, w', hr, h2, h3, ?_⟩
      rcases h4 with h4 | h4
      · exact .inl h4.symm
      · exact .inr (by rw [h4]; rfl)

/-- Onto a slice without room: what is appended to lies in new memory, or nothing is appended. -/
theorem run_app_full (w : World) (t ty e : TypeId) (i : TypeInfo) (z : Value) (size bytes : Nat) (ht : P.underlying t = some (.slice e)) (hi : P.info? e = some i) (hz : i.zero = some z) (hsize : i.size = size) (hby : i.bytes = bytes) (hzs : z.cells.size = size) (hsz : 0 < size)
    (p : Option Addr) (n : Nat) (xs : List Value) (hx : xs.length = n * size) (hp : CellsP w p xs) (q : Option Addr) (m d : Nat) (ys : List Value) (hl : ys.length = m * size) (hq : CellsP w q ys) (h1 : ∀ u ∈ ys, u.oneCell' = true)
    (h63 : n + m ≤ maxLen) (hbytes : (n + m) * bytes ≤ 140737488355328) :
    ∃ q' c' w', (Builtin.append_ #[t, t] ty #[.slice p n n, .slice q m d]).run P w = .ok (.slice q' (n + m) c') w' ∧ CellsP w' q' (xs ++ ys) ∧ w.grownBy w' none ∧ n + m ≤ c' ∧ c' ≤ maxLen ∧
      ((0 < m ∧ w'.ownsRow w.heap.size e size (.slice q' (n + m) c') (n + m) (xs ++ ys)) ∨ (m = 0 ∧ q' = p ∧ c' = n ∧ w' = w)) := by
  rcases Nat.eq_zero_or_pos m with h0 | h0
  · subst h0
    have hys : ys = [] := List.eq_nil_of_length_eq_zero (by simpa using hl)
    subst hys
    exact ⟨p, n, w, run_app_none w t ty e i ht hi p n n (Nat.le_refl _) q d, by simpa using hp, ⟨rfl, rfl, rfl, Nat.le_refl _, fun _ _ _ => rfl⟩, by omega, by omega, .inr ⟨rfl, rfl, rfl, rfl⟩⟩
  · rcases hq with rfl | ⟨b, o, rfl, hq⟩
    · have : 0 < m * size := Nat.mul_pos h0 hsz
      simp at hl; omega
    · have hq' : ∀ j u, ys[j]? = some u → w.cell? ((⟨b, o, none⟩ : Addr).add j) = some u := fun j u hu => by rw [addr_add]; exact hq j u hu
      suffices H : ∃ v' w', (Builtin.append_ #[t, t] ty #[.slice p n n, .slice (some ⟨b, o, none⟩) m d]).run P w = .ok v' w' ∧ w'.ownsRow w.heap.size e size v' (n + m) (xs ++ ys) ∧ w.grownBy w' none by
        obtain ⟨v', w', hr, h2, h3⟩ := H
        obtain ⟨g, cap, rfl, hg, hnc, hcm, hcell, _⟩ := own_cells h2 (by omega)
        exact ⟨_, cap, w', hr, .inr ⟨g, 0, rfl, fun i v hv => by rw [Nat.zero_add]; exact hcell i v hv⟩, h3, hnc, hcm, .inl ⟨h0, h2⟩⟩
      rcases hp with rfl | ⟨bp, op, rfl, hp⟩
      · have hn : n = 0 := by
          rcases Nat.eq_zero_or_pos n with h | h
          · exact h
          · have : 0 < n * size := Nat.mul_pos h hsz
            simp at hx; omega
        subst hn
        cases p with
        | none =>
          obtain ⟨v', w', hr, h2, h3, _⟩ := run_append_own_at (P := P) w w.heap.size t ty e i z size bytes ht hi hz hsize hby hzs hsz (.slice none 0 0) 0 [] (World.ownsRow_nil _ _ _ _) ⟨b, o, none⟩ m d ys hl hq' h1 h63 hbytes (Nat.le_refl _)
          exact ⟨v', w', hr, h2, h3⟩
        | some pa =>
          obtain ⟨v', w', hr, h2, h3⟩ := run_append_arg_grows (P := P) w t ty e i z size bytes ht hi hz hsize hby hzs hsz pa 0 0 [] (by simp) (by simp) ⟨b, o, none⟩ m d ys hl hq' (by omega) h63 hbytes
          exact ⟨v', w', hr, h2, h3⟩
      · obtain ⟨v', w', hr, h2, h3⟩ := run_append_arg_grows (P := P) w t ty e i z size bytes ht hi hz hsize hby hzs hsz ⟨bp, op, none⟩ n n xs hx (fun j u hu => by rw [addr_add]; exact hp j u hu) ⟨b, o, none⟩ m d ys hl hq' (by omega) h63 hbytes
        exact ⟨v', w', hr, h2, h3⟩

theorem wp_app (w : World) {o : Oper} {a : Act} {K : Act → World → Prop} {Q : Exit → Act → World → Prop} (s x : Operand) (t : TypeId) (ho : o.op = .call { callee := .builtin .append, args := #[s, x], argTypes := #[t, t] })
    (v y v' : Value) (w' : World) (hs : a.eval s = v) (hx : a.eval x = y) (hr : (Builtin.append_ #[t, t] o.type #[v, y]).run P w = .ok v' w') (h : K (a.put o.dst v') w') : o.wp P a w K Q := by
  unfold Oper.wp execOp
  simp only [ho, resolve, invoke, builtin, Sem.run_bind, Sem.run_pure, Result.andThen_ok, List.map_toArray, List.map_cons, List.map_nil, hs, hx, hr]
  exact h
/-- An append whose run is known, in the list of a region's operations. -/
theorem wpList_app (w : World) {ops : Array Oper} {rest : List Oper} {o : Oper} {a : Act} {Q : Exit → Act → World → Prop} (hgd : o.guard = none) (s x : Operand) (t : TypeId) (ho : o.op = .call { callee := .builtin .append, args := #[s, x], argTypes := #[t, t] })
    (v y v' : Value) (w' : World) (hs : a.eval s = v) (hx : a.eval x = y) (hr : (Builtin.append_ #[t, t] o.type #[v, y]).run P w = .ok v' w') (h : wpList P ops Q rest (a.put o.dst v') w') : wpList P ops Q (o :: rest) a w :=
  wpList_plain hgd fun _ hK => wp_app w s x t ho v y v' w' hs hx hr (hK _ _ h)
/-- The same at a step of a region that draws its order. -/
theorem step_app (w : World) {ops : Array Oper} {o : Oper} {a : Act} {K : Act → World → Prop} {Q : Exit → Act → World → Prop} {E : Prop} (hgd : o.guard = none) (s x : Operand) (t : TypeId) (ho : o.op = .call { callee := .builtin .append, args := #[s, x], argTypes := #[t, t] })
    (v y v' : Value) (w' : World) (hs : a.eval s = v) (hx : a.eval x = y) (hr : (Builtin.append_ #[t, t] o.type #[v, y]).run P w = .ok v' w') (h : K (a.put o.dst v') w') :
    if Region.wanted o (yielded ops a.tmps) = true then Oper.wp P o a w K Q else E := by
  have hw : Region.wanted o (yielded ops a.tmps) = true := by simp [Region.wanted, hgd]
  rw [if_pos hw]
  exact wp_app w s x t ho v y v' w' hs hx hr h
end
end Go.Proofs.YtkgciohebloffaaGreat
/- Words: the code of an expression, and the error of code; the reference's. -/
namespace Go.Proofs.YtkgciohebloffaaGreat
open Go.RowKit

/-- The cells of words in a row. -/
def wdV : List (Int × Int × ByteArray) → List Value
  | [] => []
  | x :: r => .int .i64 x.1 :: .int .i64 x.2.1 :: .string x.2.2 :: wdV r
theorem wdV_length : ∀ L, (wdV L).length = L.length * 3
  | [] => rfl
  | x :: r => by simp [wdV, wdV_length r]; omega
theorem wdV_app : ∀ L M, wdV (L ++ M) = wdV L ++ wdV M
  | [], M => rfl
  | x :: r, M => by simp [wdV, wdV_app r M]
theorem wdV_get : ∀ L i x, L[i]? = some x → (wdV L)[i * 3]? = some (.int .i64 x.1) ∧ (wdV L)[i * 3 + 1]? = some (.int .i64 x.2.1) ∧ (wdV L)[i * 3 + 2]? = some (.string x.2.2)
  | y :: r, 0, x, h => by simp at h; subst h; simp [wdV]
  | y :: r, i + 1, x, h => by
    have := wdV_get r i x (by simpa using h)
    rw [show (i + 1) * 3 = i * 3 + 1 + 1 + 1 by omega]
    simpa [wdV] using this
/-- The words lie in block b. -/
def WdAt (w : World) (b : Nat) (L : List (Int × Int × ByteArray)) : Prop :=
  ∀ i x, L[i]? = some x → w.cell? ⟨b, i * 3, none⟩ = some (.int .i64 x.1) ∧ w.cell? ⟨b, i * 3 + 1, none⟩ = some (.int .i64 x.2.1) ∧ w.cell? ⟨b, i * 3 + 2, none⟩ = some (.string x.2.2)
theorem WdAt.ext {S : Nat → Prop} {w w' : World} {b : Nat} {L : List (Int × Int × ByteArray)} (h : WdAt w b L) (e : Ext S w w') (hb : ¬ S b) : WdAt w' b L := fun i x hx => by
  obtain ⟨h0, h1, h2⟩ := h i x hx
  exact ⟨e.cell_some h0 hb, e.cell_some h1 hb, e.cell_some h2 hb⟩
/-- Words in memory. -/
def WdP (w : World) (L : List (Int × Int × ByteArray)) (p : Option Addr) : Prop := L = [] ∨ ∃ b, p = some ⟨b, 0, none⟩ ∧ WdAt w b L
theorem WdP.ext {S : Nat → Prop} {w w' : World} {L : List (Int × Int × ByteArray)} {p : Option Addr} (h : WdP w L p) (e : Ext S w w') (hb : ∀ b, p.map (·.block) = some b → ¬ S b) : WdP w' L p := by
  rcases h with h | ⟨b, rfl, h⟩
  · exact .inl h
  · exact .inr ⟨b, rfl, h.ext e (hb b rfl)⟩
/-- A word whose parts are small. -/
def WdOk (x : Int × Int × ByteArray) : Prop := (-1099511627776 ≤ x.1 ∧ x.1 ≤ 1099511627776) ∧ (-1099511627776 ≤ x.2.1 ∧ x.2.1 ≤ 1099511627776) ∧ x.2.2.size ≤ 200000

/-- How many operands an operator takes. -/
def opsN (op : Int) : Int := if (op == 1) = true then 0 else if (op == 2) = true then 0 else if (op == 8) = true then 1 else if (op == 9) = true then 3 else 2
set_option maxHeartbeats 400000 in
theorem r_operands (op : Int) (w : World) : Calls Tryz.prog 87 #[.int .i64 op] w fun e w' => e = .returned (.int .i64 (opsN op)) ∧ w = w' := by
  by_cases h1 : op = 1
  · subst h1
    go_enter Tryz.func87, Tryz.ntmps87
    go_wp2
    go_ret
    exact ⟨rfl, rfl⟩
  by_cases h2 : op = 2
  · subst h2
    go_enter Tryz.func87, Tryz.ntmps87
    go_wp2
    go_ret
    exact ⟨rfl, rfl⟩
  by_cases h8 : op = 8
  · subst h8
    go_enter Tryz.func87, Tryz.ntmps87
    go_wp2
    go_ret
    exact ⟨rfl, rfl⟩
  by_cases h9 : op = 9
  · subst h9
    go_enter Tryz.func87, Tryz.ntmps87
    go_wp2
    go_ret
    exact ⟨rfl, rfl⟩
  have e1 : (op == 1) = false := by simpa using h1
  have e2 : (op == 2) = false := by simpa using h2
  have e8 : (op == 8) = false := by simpa using h8
  have e9 : (op == 9) = false := by simpa using h9
  have HE := hid (show opsN op = 2 by rw [opsN, e1, e2, e8, e9]; rfl)
  clear h1 h2 h8 h9
  go_enter Tryz.func87, Tryz.ntmps87
  go_wp2
  go_ret
  exact ⟨ret_int HE.out.symm, rfl⟩

/-- The error of a word by itself. -/
def wErr (x : Int × Int × ByteArray) : Int :=
  if decide (1 ≤ x.1 ∧ x.1 ≤ 9) = false then 4
  else if ((x.2.1 != 0) && (x.1 != 1) || (!x.2.2.toList.isEmpty) && (x.1 != 2)) = true then 3
  else if decide (0 ≤ x.2.1 ∧ x.2.1 ≤ 999) = false then 1
  else if ((x.1 == 2) && !(nameB x.2.2.data.toList)) = true then 5
  else 0

set_option maxRecDepth 100000 in
set_option maxHeartbeats 2000000 in
theorem r_wordFault (op n : Int) (s : ByteArray) (w : World) (hs : s.size ≤ 9223372036854775807) :
    Calls Tryz.prog 86 #[.agg #[.int .i64 op, .int .i64 n, .string s]] w fun e w' => e = .returned (.int .i64 (wErr (op, n, s))) ∧ Below w.heap.size w w' := by
  have HB := hid (alloc_below w (.cells #[.int .i64 op, .int .i64 n, .string s] 78))
  by_cases hi : decide (1 ≤ op ∧ op ≤ 9) = true
  case neg =>
    have hi' : decide (1 ≤ op ∧ op ≤ 9) = false := by simpa using hi
    have HI := hid hi'
    clear hi hi'
    go_enter Tryz.func86, Tryz.ntmps86
    go_wp2_with fail
    refine (r_in_b _ _ _ false HI.out _).mono ?_
    rintro e w1 ⟨rfl, rfl⟩
    go_wp2_with fail
    go_ret
    exact ⟨ret_int (by rw [wErr, if_pos HI.out]), HB.out⟩
  have HI := hid hi
  clear hi
  by_cases hf : ((n != 0) && (op != 1) || (!s.toList.isEmpty) && (op != 2)) = true
  · have HF := hid hf
    have hcs : ((n != 0) = true ∧ (op != 1) = true) ∨ ((n != 0) = false ∧ (!s.toList.isEmpty) = true ∧ s.toList.isEmpty = false ∧ (op != 2) = true) ∨ ((n != 0) = true ∧ (op != 1) = false ∧ (!s.toList.isEmpty) = true ∧ s.toList.isEmpty = false ∧ (op != 2) = true) := by
      revert hf
      cases (n != 0) <;> cases (op != 1) <;> cases s.toList.isEmpty <;> cases (op != 2) <;> simp
    clear hf
    rcases hcs with ⟨e1, e2⟩ | ⟨e1, e2, e3, e4⟩ | ⟨e1, e2, e3, e4, e5⟩
    all_goals
      go_enter Tryz.func86, Tryz.ntmps86
      go_wp2_with fail
      refine (r_in_b _ _ _ true HI.out _).mono ?_
      rintro e w1 ⟨rfl, rfl⟩
      go_wp2_with fail
      go_ret
      exact ⟨ret_int (by rw [wErr, if_neg (by rw [HI.out]; simp), if_pos HF.out]), HB.out⟩
  · have HF := hid hf
    have hcs : ((n != 0) = false ∧ (!s.toList.isEmpty) = false ∧ s.toList.isEmpty = true) ∨ ((n != 0) = false ∧ (!s.toList.isEmpty) = true ∧ s.toList.isEmpty = false ∧ (op != 2) = false) ∨ ((n != 0) = true ∧ (op != 1) = false ∧ (!s.toList.isEmpty) = false ∧ s.toList.isEmpty = true) ∨ ((n != 0) = true ∧ (op != 1) = false ∧ (!s.toList.isEmpty) = true ∧ s.toList.isEmpty = false ∧ (op != 2) = false) := by
      revert hf
      cases (n != 0) <;> cases (op != 1) <;> cases s.toList.isEmpty <;> cases (op != 2) <;> simp
    clear hf
    by_cases hj : decide (0 ≤ n ∧ n ≤ 999) = true
    case neg =>
      have hj' : decide (0 ≤ n ∧ n ≤ 999) = false := by simpa using hj
      have HJ := hid hj'
      clear hj hj'
      rcases hcs with ⟨e1, e2, e3⟩ | ⟨e1, e2, e3, e4⟩ | ⟨e1, e2, e3, e4⟩ | ⟨e1, e2, e3, e4, e5⟩
      all_goals
        go_enter Tryz.func86, Tryz.ntmps86
        go_wp2_with fail
        refine (r_in_b _ _ _ true HI.out _).mono ?_
        rintro e w1 ⟨rfl, rfl⟩
        go_wp2_with fail
        refine (r_in_b _ _ _ false HJ.out _).mono ?_
        rintro e w1 ⟨rfl, rfl⟩
        go_wp2_with fail
        go_ret
        exact ⟨ret_int (by rw [wErr, if_neg (by rw [HI.out]; simp), if_neg HF.out, if_pos HJ.out]), HB.out⟩
    have HJ := hid hj
    clear hj
    by_cases h2 : (op == 2) = true
    · have H2 := hid h2
      by_cases hm : nameB s.data.toList = true
      case neg =>
        have hm' : nameB s.data.toList = false := by simpa using hm
        have HM := hid hm'
        clear hm hm'
        rcases hcs with ⟨e1, e2, e3⟩ | ⟨e1, e2, e3, e4⟩ | ⟨e1, e2, e3, e4⟩ | ⟨e1, e2, e3, e4, e5⟩
        all_goals
          go_enter Tryz.func86, Tryz.ntmps86
          go_wp2_with fail
          refine (r_in_b _ _ _ true HI.out _).mono ?_
          rintro e w1 ⟨rfl, rfl⟩
          go_wp2_with fail
          refine (r_in_b _ _ _ true HJ.out _).mono ?_
          rintro e w1 ⟨rfl, rfl⟩
          go_wp2_with fail
          refine (q_Name s false HM.out _ hs).mono ?_
          rintro e w2 ⟨rfl, hb2⟩
          have HB2 := hid (HB.out.trans (hb2.mono (by simp)))
          clear hb2
          go_wp2_with fail
          go_ret
          exact ⟨ret_int (by rw [wErr, if_neg (by rw [HI.out]; simp), if_neg HF.out, if_neg (by rw [HJ.out]; simp), if_pos (by rw [H2.out, HM.out]; rfl)]), HB2.out⟩
      have HM := hid hm
      clear hm
      rcases hcs with ⟨e1, e2, e3⟩ | ⟨e1, e2, e3, e4⟩ | ⟨e1, e2, e3, e4⟩ | ⟨e1, e2, e3, e4, e5⟩
      all_goals
        go_enter Tryz.func86, Tryz.ntmps86
        go_wp2_with fail
        refine (r_in_b _ _ _ true HI.out _).mono ?_
        rintro e w1 ⟨rfl, rfl⟩
        go_wp2_with fail
        refine (r_in_b _ _ _ true HJ.out _).mono ?_
        rintro e w1 ⟨rfl, rfl⟩
        go_wp2_with fail
        refine (q_Name s true HM.out _ hs).mono ?_
        rintro e w2 ⟨rfl, hb2⟩
        have HB2 := hid (HB.out.trans (hb2.mono (by simp)))
        clear hb2
        go_wp2_with fail
        go_ret
        exact ⟨ret_int (by rw [wErr, if_neg (by rw [HI.out]; simp), if_neg HF.out, if_neg (by rw [HJ.out]; simp), if_neg (by rw [H2.out, HM.out]; simp)]), HB2.out⟩
    · have h2' : (op == 2) = false := by simpa using h2
      have H2 := hid h2'
      clear h2
      rcases hcs with ⟨e1, e2, e3⟩ | ⟨e1, e2, e3, e4⟩ | ⟨e1, e2, e3, e4⟩ | ⟨e1, e2, e3, e4, e5⟩
      all_goals
        go_enter Tryz.func86, Tryz.ntmps86
        go_wp2_with fail
        refine (r_in_b _ _ _ true HI.out _).mono ?_
        rintro e w1 ⟨rfl, rfl⟩
        go_wp2_with fail
        refine (r_in_b _ _ _ true HJ.out _).mono ?_
        rintro e w1 ⟨rfl, rfl⟩
        go_wp2_with fail
        go_ret
        exact ⟨ret_int (by rw [wErr, if_neg (by rw [HI.out]; simp), if_neg HF.out, if_neg (by rw [HJ.out]; simp), if_neg (by rw [H2.out]; simp)]), HB.out⟩
end Go.Proofs.YtkgciohebloffaaGreat
