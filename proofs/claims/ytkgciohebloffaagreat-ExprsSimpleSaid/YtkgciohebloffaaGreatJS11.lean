/- Texts joined: RBnd1, Or. -/
import Derived.Test.YtkgciohebloffaaGreatJS10
import Derived.Test.YtkgciohebloffaaGreatJS07
import Derived.RegionTactic
import Derived.BigRegion
import Derived.Deep.RegionWith
import Derived.StillTailTactics
import Derived.Test.YtkgciohebloffaaGreatJS01
/- boundsOf, the reference's. -/
namespace Go.Proofs.YtkgciohebloffaaGreat
open Go.RowKit

def prV : List (Int × Int) → List Value
  | [] => []
  | x :: r => .int .i64 x.1 :: .int .i64 x.2 :: prV r
theorem prV_app : ∀ L M, prV (L ++ M) = prV L ++ prV M
  | [], M => rfl
  | x :: r, M => by simp [prV, prV_app r M]
theorem prV_length : ∀ L, (prV L).length = L.length * 2
  | [] => rfl
  | x :: r => by simp [prV, prV_length r]; omega
theorem prV_get : ∀ L i x, L[i]? = some x → (prV L)[i * 2]? = some (.int .i64 x.1) ∧ (prV L)[i * 2 + 1]? = some (.int .i64 x.2)
  | y :: r, 0, x, h => by simp at h; subst h; simp [prV]
  | y :: r, i + 1, x, h => by
    have := prV_get r i x (by simpa using h)
    rw [show (i + 1) * 2 = i * 2 + 1 + 1 by omega]
    simpa [prV] using this
theorem info_bnds : (Tryz.prog.info? 122).map (fun i => (i.zero, i.size, i.bytes)) = some (some (.agg #[.int .i64 0, .int .i64 0]), 2, 16) := by kernel_rfl

/-- All numbers of an expression lie from 0 to 999. -/
def F.Small : F → Prop
  | .nil => True
  | .cons op n _ a r => ((1 ≤ op ∧ op ≤ 9) ∧ (0 ≤ n ∧ n ≤ 999) ∧ (a.len : Int) = ar op) ∧ a.Small ∧ r.Small
def In999 (x : Int × Int) : Prop := 0 ≤ x.1 ∧ x.1 ≤ x.2 ∧ x.2 ≤ 999
def SpGood (L : List (ByteArray × Int × Int)) : Prop := ∀ x ∈ L, In999 x.2

theorem F.small_drop : ∀ (k : Nat) {f : F}, f.Small → (f.drop k).Small
  | 0, _, h => h
  | _ + 1, .nil, h => h
  | k + 1, .cons _ _ _ _ _, h => F.small_drop k h.2.2
theorem look_in (s : ByteArray) : ∀ {L : List (ByteArray × Int × Int)}, SpGood L → In999 (look s L)
  | [], _ => by simp [look, In999]
  | x :: r, h => by
    unfold look
    split
    · exact h x (by simp)
    · exact look_in s (fun y hy => h y (by simp [hy]))
theorem tr_in (p : Prop) [Decidable p] : 0 ≤ tr p ∧ tr p ≤ 1 := by unfold tr; split <;> omega
theorem wrap_in {lo hi : Int} (h : lo ≤ hi) (h1 : -999 ≤ lo) (h2 : hi ≤ 1998) : In999 (wrapB lo hi) := by
  unfold wrapB In999
  split
  · simp; omega
  · split
    · simp; omega
    · split <;> simp <;> omega
theorem comb_in {op : Int} {l : List (Int × Int)} (h : ∀ b ∈ l, In999 b) : In999 (comb op l) := by
  have hd : ∀ i, In999 (l.getD i (0, 0)) := fun i => by
    rw [List.getD_eq_getElem?_getD]
    cases e : l[i]? with
    | none => simp [In999]
    | some b => exact h b (List.mem_of_getElem? e)
  have hx := hd 0
  have hy := hd (l.length - 1)
  have h1 := hd 1
  have h2 := hd 2
  unfold comb
  generalize l.getD 0 (0, 0) = x at *
  generalize l.getD (l.length - 1) (0, 0) = y at *
  generalize l.getD 1 (0, 0) = u at *
  generalize l.getD 2 (0, 0) = v at *
  obtain ⟨x1, x2⟩ := x
  obtain ⟨y1, y2⟩ := y
  obtain ⟨u1, u2⟩ := u
  obtain ⟨v1, v2⟩ := v
  simp only [In999] at hx hy h1 h2
  dsimp only
  split
  · exact wrap_in (by omega) (by omega) (by omega)
  split
  · exact wrap_in (by omega) (by omega) (by omega)
  split
  · split
    · simp [In999]
    · refine ⟨Int.mul_nonneg hx.1 hy.1, ?_, by dsimp only; omega⟩
      exact Int.mul_le_mul hx.2.1 hy.2.1 hy.1 (by omega)
  split
  · simp only [In999, tr]; split <;> split <;> omega
  split
  · simp only [In999, tr]; split <;> split <;> omega
  split
  · simp only [In999, tr]; split <;> split <;> omega
  split
  · exact h1
  split
  · exact h2
  · simp only [In999]; omega
theorem bnd_in {L : List (ByteArray × Int × Int)} (hg : SpGood L) : ∀ f : F, f.Small → ∀ b ∈ bndF L f, In999 b
  | .nil, _, b, hb => by simp [bndF] at hb
  | .cons op n s a r, h, b, hb => by
    rw [bndF_cons] at hb
    rcases List.mem_cons.1 hb with rfl | hb
    · unfold bndE
      split
      · exact ⟨h.1.2.1.1, Int.le_refl _, h.1.2.1.2⟩
      split
      · exact look_in s hg
      · exact comb_in (bnd_in hg a h.2.1)
    · exact bnd_in hg r h.2.2 b hb

theorem len_one {α : Type} : ∀ {l : List α}, l.length = 1 → ∃ x, l = [x]
  | [x], _ => ⟨x, rfl⟩
theorem len_two {α : Type} : ∀ {l : List α}, l.length = 2 → ∃ x y, l = [x, y]
  | [x, y], _ => ⟨x, y, rfl⟩
theorem len_three {α : Type} : ∀ {l : List α}, l.length = 3 → ∃ x y z, l = [x, y, z]
  | [x, y, z], _ => ⟨x, y, z, rfl⟩

theorem below_ext {B : Nat} {a b c : World} (h : Below B a b) (e : Ext (fun _ => False) b c) (hB : B ≤ b.heap.size) : Below B a c :=
  ⟨e.os.trans h.os, e.tape.trans h.tape, e.output.trans h.output, Nat.le_trans h.size e.size, fun i hi => (e.block i (Nat.lt_of_lt_of_le hi hB) id).trans (h.block i hi)⟩

theorem r_truth_d (p : Prop) [Decidable p] (w : World) : Calls Tryz.prog 112 #[.bool (decide p)] w fun e w' => e = .returned (.int .i64 (tr p)) ∧ w = w' := r_truth_p _ p (by simp) w

theorem two_new {wr w6 : World} {C D : Array Value} {S T : TypeId} (h : ((wr.alloc (.cells C S)).alloc (.cells D T)).drew = w6) : w6.heap[wr.heap.size]? = some (.cells C S (0, 0)) ∧ w6.heap[wr.heap.size + 1]? = some (.cells D T (0, 0)) ∧ Ext (fun _ => False) wr w6 := by
  subst h
  refine ⟨?_, ?_, (((Ext.refl _).alloc _).alloc _).drew⟩
  · exact (((Ext.refl (S := fun _ => False) _).alloc _).drew).heap (heap_new wr _) id
  · have e : (wr.alloc (.cells C S)).heap.size = wr.heap.size + 1 := by simp
    have := heap_new (wr.alloc (.cells C S)) (.cells D T)
    rw [e] at this; exact this

theorem r_truth_q (p : Prop) [Decidable p] (w : World) : Calls Tryz.prog 112 #[.bool (decide p)] w fun e w' => e = .returned (.int .i64 (tr p)) ∧ w' = w := (r_truth_d p w).mono fun _ _ h => ⟨h.1, h.2.symm⟩

theorem bdrew {B : Nat} {a w : World} (h : Below B a w) : Below B a w.drew := ⟨h.os, h.tape, h.output, h.size, h.block⟩

theorem r_truth_e (x y : Int) (w : World) : Calls Tryz.prog 112 #[.bool (x == y)] w fun e w' => e = .returned (.int .i64 (tr (x = y))) ∧ w' = w := (r_truth_p (x == y) (x = y) (by simp) w).mono fun _ _ h => ⟨h.1, h.2.symm⟩

/-- What holds behind k rounds. -/
def BRel (L : List (ByteArray × Int × Int)) (op n : Int) (s : ByteArray) (a : F) (p : Option Addr) (c : Nat) (w : World) (k : Nat) (v : Value) (wr : World) : Prop :=
  ∃ acc, acc.length = k ∧ bndF L a = acc ++ bndF L (a.drop k) ∧ wr.ownsRow (w.heap.size + 2) 122 2 v k (prV acc) ∧
    wr.heap[w.heap.size]? = some (.cells #[.int .i64 op, .int .i64 n, .string s, .slice p a.len c] 28 (0, 0)) ∧
    wr.heap[w.heap.size + 1]? = some (.cells #[.int .i64 0, .int .i64 0] 122 (0, 0)) ∧ Below w.heap.size w wr ∧ w.heap.size + 2 ≤ wr.heap.size

end Go.Proofs.YtkgciohebloffaaGreat
/- cmp.Or at errors: the first one that is not OK. -/
namespace Go.Proofs.YtkgciohebloffaaGreat
open Go.RowKit

def orL : List Int → Int
  | [] => 0
  | x :: r => if x = 0 then orL r else x

set_option maxHeartbeats 400000 in
theorem or_any (b n : Nat) (xs : List Int) (w : World) (hn : n ≤ 100) (hx : xs.length = n) (hc : ∀ i, i < n → w.cell? ⟨b, i, none⟩ = some (.int .i64 (xs.getD i 0))) :
    Calls Tryz.prog 14 #[.slice (some ⟨b, 0, none⟩) n n] w fun e w' => e = .returned (.int .i64 (orL xs)) ∧ w = w' := by
  have HC := hid hc
  have HX := hid hx
  clear hc hx
  go_enter Tryz.func14, Tryz.ntmps14
  go_wp2_with fail
  go_loop [8] (fun i => ∃ k : Nat, k ≤ n ∧ i = .int .i64 k ∧ orL xs = orL (xs.drop k)) (fun i => n - (intOf i).toNat)
  case atStart => exact ⟨0, by omega, rfl, rfl⟩
  case round =>
    obtain ⟨k, hk, rfl, hr⟩ := hrel
    have HR := hid hr
    clear hr
    by_cases hlt : k < n
    · have c0 := HC.out k hlt
      have hkx : k < xs.length := by rw [HX.out]; exact hlt
      have HD : Hid (orL xs = if xs.getD k 0 = 0 then orL (xs.drop (k + 1)) else xs.getD k 0) := hid (by
        rw [HR.out, List.drop_eq_getElem_cons hkx, orL, List.getD_eq_getElem?_getD, List.getElem?_eq_getElem hkx]; rfl)
      generalize xs.getD k 0 = x at c0 HD
      by_cases hz : x = 0
      · subst hz
        go_wp2_with fail
        go_round
        case rel => exact ⟨k + 1, by omega, by go_num, by rw [HD.out]; simp⟩
        case measure => simp [intOf]; omega
      · have hz' : (x != 0) = true := by simpa using hz
        have HZ := hid hz
        clear hz
        go_wp2_with fail
        go_ret
        exact ⟨ret_int (by rw [HD.out, if_neg HZ.out]), rfl⟩
    · go_wp2_with fail
      go_ret
      exact ⟨ret_int (by rw [HR.out, List.drop_eq_nil_of_le (by rw [HX.out]; omega)]; rfl), rfl⟩
theorem or_new (xs : List Int) (n : Nat) (T : TypeId) (w : World) (hn : n ≤ 100) (hx : xs.length = n) :
    Calls Tryz.prog 14 #[.slice (some ⟨w.heap.size, 0, none⟩) n n] (w.alloc (.cells (xs.map (Value.int .i64)).toArray T)) fun e w' => e = .returned (.int .i64 (orL xs)) ∧ Below w.heap.size w w' := by
  refine (or_any w.heap.size n xs _ hn hx ?_).mono ?_
  · intro i hi
    refine cell_new_row _ _ _ _ _ ?_
    have : i < xs.length := by omega
    simp [List.getElem?_eq_getElem this, List.getD_eq_getElem?_getD]
  · rintro e w' ⟨rfl, rfl⟩
    exact ⟨rfl, (Below.refl _ _).alloc (Nat.le_refl _) _⟩
end Go.Proofs.YtkgciohebloffaaGreat
