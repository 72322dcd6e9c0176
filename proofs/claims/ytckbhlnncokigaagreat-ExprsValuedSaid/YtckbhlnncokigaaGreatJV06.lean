/- Texts joined: RBnd0, NameSpec. -/
import Derived.Test.YtckbhlnncokigaaGreatJV05
import Derived.Handy
import Derived.Lib.Bytealg
/- Bounds of expressions, plain; and the small functions of the reference that reckon them. -/
namespace Go.Proofs.YtckbhlnncokigaaGreat
open Go.RowKit

/-- The bounds of a variable, by spans. -/
def look (s : ByteArray) : List (ByteArray × Int × Int) → Int × Int
  | [] => (0, 999)
  | x :: r => if (x.1.toList == s.toList) = true then x.2 else look s r
/-- Bounds of remainders. -/
def wrapB (lo hi : Int) : Int × Int := if 999 < lo then (lo - 1000, hi - 1000) else if hi < 0 then (lo + 1000, hi + 1000) else if lo < 0 ∨ 999 < hi then (0, 999) else (lo, hi)
def tr (p : Prop) [Decidable p] : Int := if p then 1 else 0
/-- Bounds of an operator, by those of its arguments. -/
def comb (op : Int) (l : List (Int × Int)) : Int × Int :=
  let x := l.getD 0 (0, 0)
  let y := l.getD (l.length - 1) (0, 0)
  if op = 3 then wrapB (x.1 + y.1) (x.2 + y.2)
  else if op = 4 then wrapB (x.1 - y.2) (x.2 - y.1)
  else if op = 5 then (if 999 < x.2 * y.2 then (0, 999) else (x.1 * y.1, x.2 * y.2))
  else if op = 6 then (tr (x.2 < y.1), tr (x.1 < y.2))
  else if op = 7 then (tr (x.1 = x.2 ∧ y.1 = y.2 ∧ x.1 = y.1), tr (¬ (x.2 < y.1 ∨ y.2 < x.1)))
  else if op = 8 then (tr (x.2 = 0), tr (x.1 = 0))
  else if 0 < x.1 then l.getD 1 (0, 0)
  else if x.2 = 0 then l.getD 2 (0, 0)
  else (min (l.getD 1 (0, 0)).1 (l.getD 2 (0, 0)).1, max (l.getD 1 (0, 0)).2 (l.getD 2 (0, 0)).2)
/-- Bounds of expressions in a row. -/
def bndF (L : List (ByteArray × Int × Int)) : F → List (Int × Int)
  | .nil => []
  | .cons op n s a r => (if op = 1 then (n, n) else if op = 2 then look s L else comb op (bndF L a)) :: bndF L r
def bndE (L : List (ByteArray × Int × Int)) (op n : Int) (s : ByteArray) (a : F) : Int × Int := if op = 1 then (n, n) else if op = 2 then look s L else comb op (bndF L a)
theorem bndF_cons (L : List (ByteArray × Int × Int)) (op n : Int) (s : ByteArray) (a r : F) : bndF L (.cons op n s a r) = bndE L op n s a :: bndF L r := rfl
theorem bndF_length (L : List (ByteArray × Int × Int)) : ∀ f : F, (bndF L f).length = f.len
  | .nil => rfl
  | .cons _ _ _ _ r => by simp [bndF, F.len, bndF_length L r]

set_option maxHeartbeats 400000 in
theorem r_truth (b : Bool) (w : World) : Calls Tryz.prog 112 #[.bool b] w fun e w' => e = .returned (.int .i64 (if b = true then 1 else 0)) ∧ w = w' := by
  cases b
  all_goals
    go_enter Tryz.func112, Tryz.ntmps112
    go_wp2
    go_ret
    exact ⟨rfl, rfl⟩
theorem r_truth_p (b : Bool) (p : Prop) [Decidable p] (h : b = true ↔ p) (w : World) : Calls Tryz.prog 112 #[.bool b] w fun e w' => e = .returned (.int .i64 (tr p)) ∧ w = w' := by
  refine (r_truth b w).mono ?_
  rintro e w' ⟨rfl, rfl⟩
  refine ⟨?_, rfl⟩
  unfold tr
  by_cases hp : p
  · rw [if_pos hp, if_pos (h.2 hp)]
  · rw [if_neg hp, if_neg (fun x => hp (h.1 x))]
theorem alloc_below (w : World) (o : Obj) : Below w.heap.size w (w.alloc o) := (Below.refl _ _).alloc (Nat.le_refl _) o
/-- What the walk wants of a block of two cells. -/
theorem blk2 {w : World} {b : Nat} {v0 v1 : Value} {T : TypeId} (h : w.heap[b]? = some (.cells #[v0, v1] T (0, 0))) :
    (w.cell? ⟨b, 0, none⟩ = some v0 ∧ w.cell? ⟨b, 1, none⟩ = some v1) ∧ (w.frozen? ⟨b, 0, none⟩ = false ∧ w.frozen? ⟨b, 1, none⟩ = false) := by
  refine ⟨⟨?_, ?_⟩, ?_, ?_⟩ <;> first | (rw [cell_of_row _ _ _ _ _ _ h]; rfl) | simp [World.frozen?, h]
theorem below_set2 {B : Nat} {a w : World} (h : Below B a w) {b : Nat} (hb : B ≤ b) (v0 v1 : Value) : Below B a ((w.setCell ⟨b, 0, none⟩ v0).setCell ⟨b, 1, none⟩ v1) := (h.setCell hb v0).setCell hb v1
set_option maxHeartbeats 400000 in
theorem r_anything (w : World) : Calls Tryz.prog 147 #[] w fun e w' => e = .returned (.agg #[.int .i64 0, .int .i64 999]) ∧ Below w.heap.size w w' := by
  go_enter Tryz.func147, Tryz.ntmps147
  go_wp2
  go_returns
  exact ⟨rfl, alloc_below _ _⟩
theorem ret_two {a b c d : Int} (h : (a, b) = (c, d)) : Ending.returned (.agg #[.int .i64 a, .int .i64 b]) = .returned (.agg #[.int .i64 c, .int .i64 d]) := by cases h; rfl
set_option maxHeartbeats 400000 in
theorem r_wrapped (lo hi : Int) (w : World) (h1 : -2000 ≤ lo) (h2 : lo ≤ 2000) (h3 : -2000 ≤ hi) (h4 : hi ≤ 2000) :
    Calls Tryz.prog 148 #[.int .i64 lo, .int .i64 hi] w fun e w' => e = .returned (.agg #[.int .i64 (wrapB lo hi).1, .int .i64 (wrapB lo hi).2]) ∧ Below w.heap.size w w' := by
  by_cases c1 : 999 < lo
  · have hw : Hid (wrapB lo hi = (lo - 1000, hi - 1000)) := hid (by rw [wrapB, if_pos c1])
    go_enter Tryz.func148, Tryz.ntmps148
    go_wp2
    go_returns
    exact ⟨by rw [hw.out], alloc_below _ _⟩
  by_cases c2 : hi < 0
  · have hw : Hid (wrapB lo hi = (lo + 1000, hi + 1000)) := hid (by rw [wrapB, if_neg c1, if_pos c2])
    go_enter Tryz.func148, Tryz.ntmps148
    go_wp2
    go_returns
    exact ⟨by rw [hw.out], alloc_below _ _⟩
  by_cases c3 : lo < 0 ∨ 999 < hi
  · have hw : Hid (wrapB lo hi = (0, 999)) := hid (by rw [wrapB, if_neg c1, if_neg c2, if_pos c3])
    rcases Int.lt_or_le lo 0 with c4 | c4
    · clear c3
      go_enter Tryz.func148, Tryz.ntmps148
      go_wp2_with fail
      refine (r_anything _).mono ?_
      rintro e w' ⟨rfl, hb⟩
      obtain ⟨⟨q0, q1⟩, f0, f1⟩ := blk2 ((Ext.of_below (S := fun _ => False) hb).heap (heap_new w _) id)
      have HB := hid ((alloc_below w _).trans (hb.mono (by simp)))
      clear hb
      go_wp2_with fail
      refine bodyPost_ret (v := .agg #[.int .i64 0, .int .i64 999]) (by simp [results, Tryz.results148, go_sem, q0, q1]) rfl ⟨by rw [hw.out], below_set2 HB.out (Nat.le_refl _) _ _⟩
    · have c5 : 999 < hi := by omega
      clear c3
      go_enter Tryz.func148, Tryz.ntmps148
      go_wp2_with fail
      refine (r_anything _).mono ?_
      rintro e w' ⟨rfl, hb⟩
      obtain ⟨⟨q0, q1⟩, f0, f1⟩ := blk2 ((Ext.of_below (S := fun _ => False) hb).heap (heap_new w _) id)
      have HB := hid ((alloc_below w _).trans (hb.mono (by simp)))
      clear hb
      go_wp2_with fail
      refine bodyPost_ret (v := .agg #[.int .i64 0, .int .i64 999]) (by simp [results, Tryz.results148, go_sem, q0, q1]) rfl ⟨by rw [hw.out], below_set2 HB.out (Nat.le_refl _) _ _⟩
  · have hw : Hid (wrapB lo hi = (lo, hi)) := hid (by rw [wrapB, if_neg c1, if_neg c2, if_neg c3])
    have c4 : 0 ≤ lo := by omega
    have c5 : hi ≤ 999 := by omega
    clear c3
    go_enter Tryz.func148, Tryz.ntmps148
    go_wp2
    go_returns
    exact ⟨by rw [hw.out], alloc_below _ _⟩

/-- A slice of spans. -/
def SpP (w : World) (L : List (ByteArray × Int × Int)) (p : Option Addr) : Prop := L = [] ∨ ∃ b, p = some ⟨b, 0, none⟩ ∧ SpAt w b L
theorem SpP.ext {S : Nat → Prop} {w w' : World} {L : List (ByteArray × Int × Int)} {p : Option Addr} (h : SpP w L p) (e : Ext S w w') (hb : ∀ b, p.map (·.block) = some b → ¬ S b) : SpP w' L p := by
  rcases h with h | ⟨b, rfl, h⟩
  · exact .inl h
  · exact .inr ⟨b, rfl, h.ext e (hb b rfl)⟩

set_option maxHeartbeats 1000000 in
theorem r_bnd1 (x : ByteArray × Int × Int) (s : ByteArray) (eb : Nat) (w : World) (hs : w.cell? ⟨eb, 2, none⟩ = some (.string s)) :
    Calls Tryz.prog 146 #[.agg #[.string x.1, .int .i64 x.2.1, .int .i64 x.2.2], .pointer (some ⟨eb, 0, none⟩)] w fun e w' => e = .returned (.bool (x.1.toList == s.toList)) ∧ Below w.heap.size w w' := by
  have hb : eb < w.heap.size := World.block_lt_of_cell? _ _ hs
  go_enter Tryz.func146, Tryz.ntmps146
  go_wp2_with fail
  go_ret
  exact ⟨rfl, alloc_below _ _⟩
set_option maxHeartbeats 1000000 in
theorem r_idx (L : List (ByteArray × Int × Int)) (p : Option Addr) (c : Nat) (s : ByteArray) (eb : Nat) (w : World) (hs : w.cell? ⟨eb, 2, none⟩ = some (.string s)) (hp : SpP w L p) (hlc : L.length ≤ c) (hcm : c ≤ maxLen) :
    Calls Tryz.prog 145 #[.slice p L.length c, .func (.func 146) #[] #[.pointer (some ⟨eb, 0, none⟩)]] w fun e w' => (∃ r : Int, e = .returned (.int .i64 r) ∧ ((r = -1 ∧ look s L = (0, 999)) ∨ ∃ (k : Nat) (x : ByteArray × Int × Int), r = k ∧ L[k]? = some x ∧ look s L = x.2)) ∧ Below w.heap.size w w' := by
  have HP := hid hp
  have HS := hid hs
  have hmm : c ≤ 9223372036854775807 := by unfold maxLen at hcm; omega
  clear hp hs
  go_enter Tryz.func145, Tryz.ntmps145
  go_wp2_with fail
  go_loopw [8] (fun i wr => ∃ k : Nat, k ≤ L.length ∧ i = .int .i64 k ∧ look s L = look s (L.drop k) ∧ Below w.heap.size w wr) (fun i _ => L.length - (intOf i).toNat)
  case atStart => exact ⟨0, by omega, rfl, rfl, Below.refl _ _⟩
  case round =>
    obtain ⟨k, hk, rfl, herr, hbl⟩ := hrel
    have HR := hid herr
    have HB := hid hbl
    have hzr : w.heap.size ≤ wr.heap.size := hbl.size
    clear herr hbl
    by_cases hlt : k < L.length
    · rcases HP.out with h0 | ⟨b, rfl, hat⟩
      · rw [h0] at hlt; simp at hlt
      have HA := hid (hat.ext (S := fun _ => False) (Ext.of_below HB.out) id)
      obtain ⟨c0, c1, c2⟩ := HA.out k _ (List.getElem?_eq_getElem hlt)
      have HD := hid (List.drop_eq_getElem_cons hlt)
      have HX := hid (List.getElem?_eq_getElem hlt)
      generalize L[k] = x at c0 c1 c2 HD HX
      have HS' := (Ext.of_below (S := fun _ => False) HB.out).cell_some HS.out id
      go_wp2_with fail
      refine (r_bnd1 x s eb _ HS').mono ?_
      rintro e w2 ⟨rfl, hb2⟩
      have HB2 := hid (HB.out.trans (hb2.mono hzr))
      clear hb2 HS'
      have HE : Hid (look s L = if (x.1.toList == s.toList) = true then x.2 else look s (L.drop (k + 1))) := hid (by rw [HR.out, HD.out, look])
      generalize (x.1.toList == s.toList) = b at HE ⊢
      cases b
      · go_wp2_with fail
        go_roundw
        case rel => exact ⟨k + 1, by omega, by go_num, by rw [HE.out]; simp, HB2.out⟩
        case measure => simp [intOf]; omega
      · go_wp2_with fail
        go_ret
        exact ⟨⟨_, rfl, .inr ⟨k, x, rfl, HX.out, by rw [HE.out]; simp⟩⟩, HB2.out⟩
    · go_wp2_with fail
      go_ret
      exact ⟨⟨_, rfl, .inl ⟨rfl, by rw [HR.out, List.drop_eq_nil_of_le (by omega)]; rfl⟩⟩, HB.out⟩
end Go.Proofs.YtckbhlnncokigaaGreat
/- Which strings are names: plain. -/
namespace Go.Proofs.YtckbhlnncokigaaGreat
def isSm (c : UInt8) : Bool := decide (97 ≤ c.toNat) && decide (c.toNat ≤ 122)
def isDg (c : UInt8) : Bool := decide (48 ≤ c.toNat) && decide (c.toNat ≤ 57)
def isWb (c : UInt8) : Bool := isSm c || isDg c || decide (c.toNat = 95)
def reserved (l : List UInt8) : Bool := l == [112, 114, 111, 99] || l == [109, 97, 105, 110] || l == [105, 102] || l == [101, 108, 115, 101]
def nameB (l : List UInt8) : Bool := decide (1 ≤ l.length) && decide (l.length ≤ 40) && isSm (l.headD 0) && !reserved l && l.all isWb

def smalls : List UInt8 := [97, 98, 99, 100, 101, 102, 103, 104, 105, 106, 107, 108, 109, 110, 111, 112, 113, 114, 115, 116, 117, 118, 119, 120, 121, 122]
def wordBytes : List UInt8 := smalls ++ [48, 49, 50, 51, 52, 53, 54, 55, 56, 57, 95]
theorem indexByte_or (l : List UInt8) (c : UInt8) : (Lib.indexByte l c = -1 ∧ l.contains c = false) ∨ (0 ≤ Lib.indexByte l c ∧ l.contains c = true) := by
  induction l with
  | nil => left; exact ⟨rfl, rfl⟩
  | cons b l ih =>
    by_cases e : b = c
    · subst e; right; simp [Lib.indexByte]
    · have e1 : (b == c) = false := by simpa using e
      have e2 : (c == b) = false := by simpa using fun h => e h.symm
      rcases ih with ⟨h, h'⟩ | ⟨h, h'⟩
      · left; exact ⟨by simp [Lib.indexByte, e1, h], by simp only [List.contains_cons, e2, h', Bool.or_false]⟩
      · right
        have hn : (Lib.indexByte l c == -1) = false := by simp; omega
        exact ⟨by simp only [Lib.indexByte, e1, hn]; simp; omega, by simp only [List.contains_cons, h', Bool.or_true]⟩
theorem smalls_contains (c : UInt8) : smalls.contains c = isSm c := by
  have : ∀ n, n < 256 → smalls.contains (UInt8.ofNat n) = isSm (UInt8.ofNat n) := by decide +kernel
  simpa using this c.toNat c.toNat_lt
theorem wordBytes_contains (c : UInt8) : wordBytes.contains c = isWb c := by
  have : ∀ n, n < 256 → wordBytes.contains (UInt8.ofNat n) = isWb (UInt8.ofNat n) := by decide +kernel
  simpa using this c.toNat c.toNat_lt
end Go.Proofs.YtckbhlnncokigaaGreat
