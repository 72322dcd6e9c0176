/- Texts joined: Same, Valued. -/
import Derived.Test.YtckbhlnncokigaaGreatJC07
import Derived.Test.YtckbhlnncokigaaGreatJC38
/- SameExpr: whether two expressions are equal. -/
namespace Go.Proofs.YtckbhlnncokigaaGreat
open Go.RowKit

def F.eqb : F → F → Bool
  | .nil, .nil => true
  | .cons op n s a r, .cons op' n' s' a' r' => op == op' && n == n' && s.toList == s'.toList && a.eqb a' && r.eqb r'
  | _, _ => false
/-- Two expressions. -/
def sameE (op n : Int) (s : ByteArray) (a : F) (op' n' : Int) (s' : ByteArray) (a' : F) : Bool := op == op' && n == n' && s.toList == s'.toList && a.eqb a'
theorem F.eqb_refl : ∀ f : F, f.eqb f = true
  | .nil => rfl
  | .cons _ _ _ a r => by simp [F.eqb, F.eqb_refl a, F.eqb_refl r]
theorem F.eqb_cons (op n : Int) (s : ByteArray) (a r : F) (op' n' : Int) (s' : ByteArray) (a' r' : F) : (F.cons op n s a r).eqb (.cons op' n' s' a' r') = (sameE op n s a op' n' s' a' && r.eqb r') := rfl
theorem F.eqb_len : ∀ {f g : F}, f.len ≠ g.len → f.eqb g = false
  | .nil, .nil, h => absurd rfl h
  | .nil, .cons _ _ _ _ _, _ => rfl
  | .cons _ _ _ _ _, .nil, _ => rfl
  | .cons _ _ _ _ r, .cons _ _ _ _ r', h => by
    have : r.eqb r' = false := F.eqb_len (by simp [F.len] at h; exact h)
    simp [F.eqb, this]

/-- What is said of SameExpr, for first operands of less than m nodes. -/
def SameSaid (m : Nat) : Prop := ∀ (op n : Int) (s : ByteArray) (a : F) (p : Option Addr) (c : Nat) (fa : List Nat) (op' n' : Int) (s' : ByteArray) (a' : F) (p' : Option Addr) (c' : Nat) (fa' : List Nat) (w : World), a.size < m → RdP w a p fa → RdP w a' p' fa' → a.len ≤ c → c ≤ 9223372036854775807 → a'.len ≤ c' → c' ≤ 9223372036854775807 →
    Calls Tryz.prog 31 #[.agg #[.int .i64 op, .int .i64 n, .string s, .slice p a.len c], .agg #[.int .i64 op', .int .i64 n', .string s', .slice p' a'.len c']] w fun e w' => e = .returned (.bool (sameE op n s a op' n' s' a')) ∧ Below w.heap.size w w'

set_option maxRecDepth 100000 in
set_option maxHeartbeats 4000000 in
theorem same_all (m : Nat) (ih : SameSaid m) (a a' : F) (p p' : Option Addr) (c c' : Nat) (fa fa' : List Nat) (w : World) (ham : a.size ≤ m) (hp : RdP w a p fa) (hp' : RdP w a' p' fa') (hac : a.len ≤ c) (hc : c ≤ 9223372036854775807) (_hac' : a'.len ≤ c') (_hc' : c' ≤ 9223372036854775807) :
    Calls Tryz.prog 78 #[.slice p a.len c, .slice p' a'.len c', .func (.func 31) #[] #[]] w fun e w' => e = .returned (.bool (a.eqb a')) ∧ Below w.heap.size w w' := by
  have HP := hid hp
  have HP' := hid hp'
  clear hp hp'
  by_cases hl : (a.len : Int) = a'.len
  · have e1 : ((a.len : Int) != a'.len) = false := by simpa using hl
    have hl1 : a.len ≤ a'.len := by omega
    have hl2 : a'.len ≤ a.len := by omega
    clear hl
    go_enter Tryz.func78, Tryz.ntmps78
    go_wp2_with fail
    go_loopw [17] (fun i wr => ∃ k : Nat, k ≤ a.len ∧ i = .int .i64 k ∧ a.eqb a' = (a.drop k).eqb (a'.drop k) ∧ Below w.heap.size w wr) (fun i _ => a.len - (intOf i).toNat)
    case atStart => exact ⟨0, by omega, rfl, rfl, Below.refl _ _⟩
    case round =>
      obtain ⟨k, hk, rfl, herr, hbl⟩ := hrel
      have HR := hid herr
      have HBl := hid hbl
      have hzr : w.heap.size ≤ wr.heap.size := hbl.size
      have hpr : RdP wr a p fa := HP.out.ext (S := fun _ => False) (Ext.of_below hbl) (fun _ _ => id)
      have hpr' : RdP wr a' p' fa' := HP'.out.ext (S := fun _ => False) (Ext.of_below hbl) (fun _ _ => id)
      clear herr hbl
      by_cases hlt : k < a.len
      · rcases hpr with ⟨h0, _⟩ | ⟨b, o, xa, fb, rfl, _, _, hcell, _, hx⟩
        · rw [h0] at hlt; simp [F.len] at hlt
        rcases hpr' with ⟨h0, _⟩ | ⟨b', o', xa', fb', rfl, _, _, hcell', _, hx'⟩
        · rw [h0] at hl1; simp [F.len] at hl1; omega
        obtain ⟨op1, n1, s1, a1, p1, c1, fa1, hdrop, x0, x1, x2, x3, hl', hc1, hp1, _⟩ := hx.at hlt
        obtain ⟨op2, n2, s2, a2, p2, c2, fa2, hdrop2, y0, y1, y2, y3, hl2', hc2, hp2, _⟩ := hx'.at (show k < a'.len by omega)
        have q0 := hcell _ _ x0
        have q1 := hcell _ _ x1
        have q2 := hcell _ _ x2
        have q3 := hcell _ _ x3
        have r0 := hcell' _ _ y0
        have r1 := hcell' _ _ y1
        have r2 := hcell' _ _ y2
        have r3 := hcell' _ _ y3
        simp only [← Nat.add_assoc, Nat.mul_comm 4 k] at q0 q1 q2 q3 r0 r1 r2 r3
        have hbb : b' < wr.heap.size := World.block_lt_of_cell? _ _ r0
        have hsz' : a1.size < m := by
          have := F.size_split k a hdrop; omega
        have HD := hid (And.intro hdrop hdrop2)
        have HQ := hid (And.intro hp1 (And.intro hp2 (And.intro hl' (And.intro hc1 (And.intro hl2' (And.intro hc2 hsz'))))))
        clear hcell hx x0 x1 x2 x3 hp1 hl' hc1 hsz' hdrop hcell' hx' y0 y1 y2 y3 hp2 hl2' hc2 hdrop2
        have hk2 : (k : Int) < (a'.len : Int) := by omega
        go_wp2_with fail
        refine (ih op1 n1 s1 a1 p1 c1 fa1 op2 n2 s2 a2 p2 c2 fa2 _ HQ.out.2.2.2.2.2.2 (HQ.out.1.ext (S := fun _ => False) (((Ext.refl _).alloc _).alloc _) (fun _ _ => id)) (HQ.out.2.1.ext (S := fun _ => False) (((Ext.refl _).alloc _).alloc _) (fun _ _ => id)) HQ.out.2.2.1 HQ.out.2.2.2.1 HQ.out.2.2.2.2.1 HQ.out.2.2.2.2.2.1).mono ?_
        rintro e w3 ⟨rfl, hb3⟩
        have HB3 := hid (HBl.out.trans ((((q_alloc_below wr _).trans ((q_alloc_below _ _).mono (by simp))).mono hzr).trans (hb3.mono (by simp; omega))))
        clear hb3
        have HEr : Hid (a.eqb a' = (sameE op1 n1 s1 a1 op2 n2 s2 a2 && (a.drop (k + 1)).eqb (a'.drop (k + 1)))) := hid (by rw [HR.out, HD.out.1, HD.out.2, F.eqb_cons])
        generalize sameE op1 n1 s1 a1 op2 n2 s2 a2 = er at *
        cases er
        · go_wp2_with fail
          go_ret
          exact ⟨ret_bool (by rw [HEr.out]; rfl), HB3.out⟩
        · go_wp2_with fail
          go_roundw
          case rel => exact ⟨k + 1, by omega, by go_num, by rw [HEr.out]; rfl, HB3.out⟩
          case measure => simp [intOf]; omega
      · go_wp2_with fail
        go_ret
        exact ⟨ret_bool (by rw [HR.out, F.eq_nil_of_len (f := a.drop k) (by rw [F.len_drop]; omega), F.eq_nil_of_len (f := a'.drop k) (by rw [F.len_drop]; omega)]; rfl), HBl.out⟩
  · have e1 : ((a.len : Int) != a'.len) = true := by simpa using hl
    have HE := hid (F.eqb_len (f := a) (g := a') (by omega))
    clear hl
    go_enter Tryz.func78, Tryz.ntmps78
    go_wp2_with fail
    go_ret
    exact ⟨ret_bool HE.out.symm, Below.refl _ _⟩

set_option maxRecDepth 100000 in
set_option maxHeartbeats 4000000 in
theorem same_one (m : Nat) (ih : SameSaid m)
    (op n : Int) (s : ByteArray) (a : F) (p : Option Addr) (c : Nat) (fa : List Nat) (op' n' : Int) (s' : ByteArray) (a' : F) (p' : Option Addr) (c' : Nat) (fa' : List Nat) (w : World) (ham : a.size ≤ m) (hp : RdP w a p fa) (hp' : RdP w a' p' fa') (hac : a.len ≤ c) (hc : c ≤ 9223372036854775807) (hac' : a'.len ≤ c') (hc' : c' ≤ 9223372036854775807) :
    Calls Tryz.prog 31 #[.agg #[.int .i64 op, .int .i64 n, .string s, .slice p a.len c], .agg #[.int .i64 op', .int .i64 n', .string s', .slice p' a'.len c']] w fun e w' => e = .returned (.bool (sameE op n s a op' n' s' a')) ∧ Below w.heap.size w w' := by
  have HP := hid hp
  have HP' := hid hp'
  clear hp hp'
  by_cases h1 : op = op'
  · subst h1
    by_cases h2 : n = n'
    · subst h2
      by_cases h3 : (s.toList == s'.toList) = true
      · have HE : Hid (sameE op n s a op n s' a' = a.eqb a') := hid (by simp only [sameE, h3, beq_self_eq_true, Bool.true_and])
        go_enter Tryz.func31, Tryz.ntmps31
        go_wp2_with fail
        refine (same_all m ih a a' p p' c c' fa fa' _ ham (HP.out.ext (S := fun _ => False) (((Ext.refl _).alloc _).alloc _) (fun _ _ => id)) (HP'.out.ext (S := fun _ => False) (((Ext.refl _).alloc _).alloc _) (fun _ _ => id)) hac hc hac' hc').mono ?_
        rintro e w3 ⟨rfl, hb3⟩
        have HB3 := hid (((q_alloc_below w _).trans ((q_alloc_below _ _).mono (by simp))).trans (hb3.mono (by simp; omega)))
        clear hb3
        go_wp2_with fail
        go_ret
        exact ⟨ret_bool HE.out.symm, HB3.out⟩
      · have h4 : (s.toList == s'.toList) = false := by simpa using h3
        have HE : Hid (sameE op n s a op n s' a' = false) := hid (by simp only [sameE, h4, Bool.and_false, Bool.false_and])
        clear h3
        go_enter Tryz.func31, Tryz.ntmps31
        go_wp2_with fail
        go_ret
        exact ⟨ret_bool HE.out.symm, (q_alloc_below _ _).trans ((q_alloc_below _ _).mono (by simp))⟩
    · have e1 : (n == n') = false := by simpa using h2
      have HE : Hid (sameE op n s a op n' s' a' = false) := hid (by simp [sameE, h2])
      clear h2
      go_enter Tryz.func31, Tryz.ntmps31
      go_wp2_with fail
      go_ret
      exact ⟨ret_bool HE.out.symm, (q_alloc_below _ _).trans ((q_alloc_below _ _).mono (by simp))⟩
  · have e1 : (op == op') = false := by simpa using h1
    have HE : Hid (sameE op n s a op' n' s' a' = false) := hid (by simp [sameE, h1])
    clear h1
    go_enter Tryz.func31, Tryz.ntmps31
    go_wp2_with fail
    go_ret
    exact ⟨ret_bool HE.out.symm, (q_alloc_below _ _).trans ((q_alloc_below _ _).mono (by simp))⟩

theorem q_SameExpr (m : Nat) : SameSaid m := by
  induction m with
  | zero => intro op n s a p c fa op' n' s' a' p' c' fa' w h; omega
  | succ m ih => intro op n s a p c fa op' n' s' a' p' c' fa' w h h1 h2 h3 h4 h5 h6; exact same_one m ih op n s a p c fa op' n' s' a' p' c' fa' w (by omega) h1 h2 h3 h4 h5 h6
end Go.Proofs.YtckbhlnncokigaaGreat
/- valued: package value computes. -/
namespace Go.Proofs.YtckbhlnncokigaaGreat
open Go.RowKit

def sixSeven : F := .cons 1 6 ⟨#[]⟩ .nil (.cons 1 7 ⟨#[]⟩ .nil .nil)
theorem sixSeven_fits : (F.cons 5 0 ⟨#[]⟩ sixSeven .nil).Fits := by
  refine ⟨by omega, by omega, by decide, ⟨by omega, by omega, by decide, trivial, ⟨by omega, by omega, by decide, trivial, trivial⟩⟩, trivial⟩
theorem sixSeven_ans : valAns [] 5 0 ⟨#[]⟩ sixSeven = (42, 0) := by
  have h : errE 5 0 ⟨#[]⟩ sixSeven 1 = 0 := by rfl
  have g : slErr ⟨#[]⟩ [] = 0 := rfl
  rw [valAns, if_neg (by rw [h]; simp), if_neg (by rw [g]; simp)]
  rfl
theorem sixSeven_at {w : World} {b : Nat} {T : TypeId} (h : w.heap[b]? = some (.cells #[.int .i64 1, .int .i64 6, .string ⟨#[]⟩, .slice none 0 0, .int .i64 1, .int .i64 7, .string ⟨#[]⟩, .slice none 0 0] T (0, 0))) : RdP w sixSeven (some ⟨b, 0, none⟩) [b] := by
  refine .inr ⟨b, 0, [.int .i64 1, .int .i64 6, .string ⟨#[]⟩, .slice none 0 0, .int .i64 1, .int .i64 7, .string ⟨#[]⟩, .slice none 0 0], [], rfl, rfl, by decide, ?_, fun k => by simp [World.frozen?, h], ?_⟩
  · intro i v hv
    rw [Nat.zero_add, cell_of_row _ _ _ _ _ _ h, ← Array.getElem?_toList]
    exact hv
  · exact ⟨none, 0, [], [], _, rfl, rfl, Nat.le_refl _, by omega, ⟨none, 0, [], [], [], rfl, rfl, Nat.le_refl _, by omega, ⟨rfl, rfl⟩, .inl ⟨rfl, rfl⟩⟩, .inl ⟨rfl, rfl⟩⟩

set_option maxHeartbeats 1000000 in
theorem l_one (n : Int) (w : World) : Calls Tryz.prog 69 #[.int .i64 n] w fun e w' => e = .returned (.agg #[.int .i64 1, .int .i64 n, .string ⟨#[]⟩, .slice none 0 0]) ∧ Below w.heap.size w w' := by
  go_enter Tryz.func69, Tryz.ntmps69
  go_wp2
  go_returns
  exact ⟨rfl, alloc_below _ _⟩

set_option maxRecDepth 100000 in
set_option maxHeartbeats 2000000 in
theorem l_valued (w : World) : Calls Tryz.prog 21 #[] w fun e w' => e = .returned (.bool true) ∧ Below w.heap.size w w' := by
  go_enter Tryz.func21, Tryz.ntmps21
  go_wp2_with fail
  refine (l_one 6 _).mono ?_
  rintro e w2 ⟨rfl, hb2⟩
  have HB2 := hid hb2
  clear hb2
  go_wp2_with fail
  refine (l_one 7 _).mono ?_
  rintro e w3 ⟨rfl, hb3⟩
  have HB3 := hid (HB2.out.trans (hb3.mono HB2.out.size))
  clear hb3
  have HN := hid (heap_new w3 (.cells #[.int .i64 1, .int .i64 6, .string ⟨#[]⟩, .slice none 0 0, .int .i64 1, .int .i64 7, .string ⟨#[]⟩, .slice none 0 0] 28))
  have HB4 := hid (HB3.out.alloc HB3.out.size (.cells #[.int .i64 1, .int .i64 6, .string ⟨#[]⟩, .slice none 0 0, .int .i64 1, .int .i64 7, .string ⟨#[]⟩, .slice none 0 0] 28))
  go_wp2_with fail
  refine (v_Eval 5 0 ⟨#[]⟩ sixSeven _ 2 _ [] none 0 _ (sixSeven_at HN.out) (by decide) (by omega) sixSeven_fits (.inl rfl) (by simp) (by simp) (by decide) (by simp)).mono ?_
  rw [sixSeven_ans]
  rintro e w5 ⟨rfl, hb5⟩
  have HB5 := hid (HB4.out.trans (hb5.mono HB4.out.size))
  clear hb5
  go_wp2_with fail
  go_ret
  exact ⟨rfl, HB5.out⟩
end Go.Proofs.YtckbhlnncokigaaGreat
