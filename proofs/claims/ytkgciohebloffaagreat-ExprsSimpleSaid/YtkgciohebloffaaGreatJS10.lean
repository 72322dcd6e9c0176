/- Texts joined: RBnd0, RSpans. -/
import Derived.Test.YtkgciohebloffaaGreatJS09
import Derived.Handy
import Derived.Test.YtkgciohebloffaaGreatJS07
/- Bounds of expressions, plain; and the small functions of the reference that reckon them. -/
namespace Go.Proofs.YtkgciohebloffaaGreat
open Go.RowKit

/-- The bounds of a variable, by spans. -/
def look (s : ByteArray) : List (ByteArray × Int × Int) → Int × Int
  | [] => (0, 999)
  | x :: r => if (x.1.toList == s.toList) = true then x.2 else look s r
/-- Bounds of remainders. -/
def wrapB (lo hi : Int) : Int × Int := if 999 < lo then (lo - 1000, hi - 1000) else if hi < 0 then (lo + 1000, hi + 1000) else if lo < 0 ∨ 999 < hi then (0, 999) else (lo, hi)
def tr (p : Prop) [Decidable p] : Int := if p then 1 else 0
/-- Bounds of an operator, by those of its arguments. -/
def comb (op : Int) (l : List (Int × Int)) : Int × Int :=
  let x := l.getD 0 (0, 0)
  let y := l.getD (l.length - 1) (0, 0)
  if op = 3 then wrapB (x.1 + y.1) (x.2 + y.2)
  else if op = 4 then wrapB (x.1 - y.2) (x.2 - y.1)
  else if op = 5 then (if 999 < x.2 * y.2 then (0, 999) else (x.1 * y.1, x.2 * y.2))
  else if op = 6 then (tr (x.2 < y.1), tr (x.1 < y.2))
  else if op = 7 then (tr (x.1 = x.2 ∧ y.1 = y.2 ∧ x.1 = y.1), tr (¬ (x.2 < y.1 ∨ y.2 < x.1)))
  else if op = 8 then (tr (x.2 = 0), tr (x.1 = 0))
  else if 0 < x.1 then l.getD 1 (0, 0)
  else if x.2 = 0 then l.getD 2 (0, 0)
  else (min (l.getD 1 (0, 0)).1 (l.getD 2 (0, 0)).1, max (l.getD 1 (0, 0)).2 (l.getD 2 (0, 0)).2)
/-- Bounds of expressions in a row. -/
def bndF (L : List (ByteArray × Int × Int)) : F → List (Int × Int)
  | .nil => []
  | .cons op n s a r => (if op = 1 then (n, n) else if op = 2 then look s L else comb op (bndF L a)) :: bndF L r
def bndE (L : List (ByteArray × Int × Int)) (op n : Int) (s : ByteArray) (a : F) : Int × Int := if op = 1 then (n, n) else if op = 2 then look s L else comb op (bndF L a)
theorem bndF_cons (L : List (ByteArray × Int × Int)) (op n : Int) (s : ByteArray) (a r : F) : bndF L (.cons op n s a r) = bndE L op n s a :: bndF L r := rfl
theorem bndF_length (L : List (ByteArray × Int × Int)) : ∀ f : F, (bndF L f).length = f.len
  | .nil => rfl
  | .cons _ _ _ _ r => by simp [bndF, F.len, bndF_length L r]

set_option maxHeartbeats 400000 in
theorem r_truth (b : Bool) (w : World) : Calls Tryz.prog 112 #[.bool b] w fun e w' => e = .returned (.int .i64 (if b = true then 1 else 0)) ∧ w = w' := by
  cases b
  all_goals
    go_enter Tryz.func112, Tryz.ntmps112
    go_wp2
    go_ret
    exact ⟨rfl, rfl⟩
theorem r_truth_p (b : Bool) (p : Prop) [Decidable p] (h : b = true ↔ p) (w : World) : Calls Tryz.prog 112 #[.bool b] w fun e w' => e = .returned (.int .i64 (tr p)) ∧ w = w' := by
  refine (r_truth b w).mono ?_
  rintro e w' ⟨rfl, rfl⟩
  refine ⟨?_, rfl⟩
  unfold tr
  by_cases hp : p
  · rw [if_pos hp, if_pos (h.2 hp)]
  · rw [if_neg hp, if_neg (fun x => hp (h.1 x))]
theorem alloc_below (w : World) (o : Obj) : Below w.heap.size w (w.alloc o) := (Below.refl _ _).alloc (Nat.le_refl _) o
/-- What the walk wants of a block of two cells. -/
theorem blk2 {w : World} {b : Nat} {v0 v1 : Value} {T : TypeId} (h : w.heap[b]? = some (.cells #[v0, v1] T (0, 0))) :
    (w.cell? ⟨b, 0, none⟩ = some v0 ∧ w.cell? ⟨b, 1, none⟩ = some v1) ∧ (w.frozen? ⟨b, 0, none⟩ = false ∧ w.frozen? ⟨b, 1, none⟩ = false) := by
  refine ⟨⟨?_, ?_⟩, ?_, ?_⟩ <;> first | (rw [cell_of_row _ _ _ _ _ _ h]; rfl) | simp [World.frozen?, h]
theorem below_set2 {B : Nat} {a w : World} (h : Below B a w) {b : Nat} (hb : B ≤ b) (v0 v1 : Value) : Below B a ((w.setCell ⟨b, 0, none⟩ v0).setCell ⟨b, 1, none⟩ v1) := (h.setCell hb v0).setCell hb v1
set_option maxHeartbeats 400000 in
theorem r_anything (w : World) : Calls Tryz.prog 147 #[] w fun e w' => e = .returned (.agg #[.int .i64 0, .int .i64 999]) ∧ Below w.heap.size w w' := by
  go_enter Tryz.func147, Tryz.ntmps147
  go_wp2
  go_returns
  exact ⟨rfl, alloc_below _ _⟩
theorem ret_two {a b c d : Int} (h : (a, b) = (c, d)) : Ending.returned (.agg #[.int .i64 a, .int .i64 b]) = .returned (.agg #[.int .i64 c, .int .i64 d]) := by cases h; rfl
set_option maxHeartbeats 400000 in
theorem r_wrapped (lo hi : Int) (w : World) (h1 : -2000 ≤ lo) (h2 : lo ≤ 2000) (h3 : -2000 ≤ hi) (h4 : hi ≤ 2000) :
    Calls Tryz.prog 148 #[.int .i64 lo, .int .i64 hi] w fun e w' => e = .returned (.agg #[.int .i64 (wrapB lo hi).1, .int .i64 (wrapB lo hi).2]) ∧ Below w.heap.size w w' := by
  by_cases c1 : 999 < lo
  · have hw : Hid (wrapB lo hi = (lo - 1000, hi - 1000)) := hid (by rw [wrapB, if_pos c1])
    go_enter Tryz.func148, Tryz.ntmps148
    go_wp2
    go_returns
    exact ⟨by rw [hw.out], alloc_below _ _⟩
  by_cases c2 : hi < 0
  · have hw : Hid (wrapB lo hi = (lo + 1000, hi + 1000)) := hid (by rw [wrapB, if_neg c1, if_pos c2])
    go_enter Tryz.func148, Tryz.ntmps148
    go_wp2
    go_returns
    exact ⟨by rw [hw.out], alloc_below _ _⟩
  by_cases c3 : lo < 0 ∨ 999 < hi
  · have hw : Hid (wrapB lo hi = (0, 999)) := hid (by rw [wrapB, if_neg c1, if_neg c2, if_pos c3])
    rcases Int.lt_or_le lo 0 with c4 | c4
    · clear c3
      go_enter Tryz.func148, Tryz.ntmps148
      go_wp2_with fail
      refine (r_anything _).mono ?_
      rintro e w' ⟨rfl, hb⟩
      obtain ⟨⟨q0, q1⟩, f0, f1⟩ := blk2 ((Ext.of_below (S := fun _ => False) hb).heap (heap_new w _) id)
      have HB := hid ((alloc_below w _).trans (hb.mono (by simp)))
      clear hb
      go_wp2_with fail
      refine bodyPost_ret (v := .agg #[.int .i64 0, .int .i64 999]) (by simp [results, Tryz.results148, go_sem, q0, q1]) rfl ⟨by rw [hw.out], below_set2 HB.out (Nat.le_refl _) _ _⟩
    · have c5 : 999 < hi := by omega
      clear c3
      go_enter Tryz.func148, Tryz.ntmps148
      go_wp2_with fail
      refine (r_anything _).mono ?_
      rintro e w' ⟨rfl, hb⟩
      obtain ⟨⟨q0, q1⟩, f0, f1⟩ := blk2 ((Ext.of_below (S := fun _ => False) hb).heap (heap_new w _) id)
      have HB := hid ((alloc_below w _).trans (hb.mono (by simp)))
      clear hb
      go_wp2_with fail
      refine bodyPost_ret (v := .agg #[.int .i64 0, .int .i64 999]) (by simp [results, Tryz.results148, go_sem, q0, q1]) rfl ⟨by rw [hw.out], below_set2 HB.out (Nat.le_refl _) _ _⟩
  · have hw : Hid (wrapB lo hi = (lo, hi)) := hid (by rw [wrapB, if_neg c1, if_neg c2, if_neg c3])
    have c4 : 0 ≤ lo := by omega
    have c5 : hi ≤ 999 := by omega
    clear c3
    go_enter Tryz.func148, Tryz.ntmps148
    go_wp2
    go_returns
    exact ⟨by rw [hw.out], alloc_below _ _⟩

/-- A slice of spans. -/
def SpP (w : World) (L : List (ByteArray × Int × Int)) (p : Option Addr) : Prop := L = [] ∨ ∃ b, p = some ⟨b, 0, none⟩ ∧ SpAt w b L
theorem SpP.ext {S : Nat → Prop} {w w' : World} {L : List (ByteArray × Int × Int)} {p : Option Addr} (h : SpP w L p) (e : Ext S w w') (hb : ∀ b, p.map (·.block) = some b → ¬ S b) : SpP w' L p := by
  rcases h with h | ⟨b, rfl, h⟩
  · exact .inl h
  · exact .inr ⟨b, rfl, h.ext e (hb b rfl)⟩

set_option maxHeartbeats 1000000 in
theorem r_bnd1 (x : ByteArray × Int × Int) (s : ByteArray) (eb : Nat) (w : World) (hs : w.cell? ⟨eb, 2, none⟩ = some (.string s)) :
    Calls Tryz.prog 146 #[.agg #[.string x.1, .int .i64 x.2.1, .int .i64 x.2.2], .pointer (some ⟨eb, 0, none⟩)] w fun e w' => e = .returned (.bool (x.1.toList == s.toList)) ∧ Below w.heap.size w w' := by
  have hb : eb < w.heap.size := World.block_lt_of_cell? _ _ hs
  go_enter Tryz.func146, Tryz.ntmps146
  go_wp2_with fail
  go_ret
  exact ⟨rfl, alloc_below _ _⟩
set_option maxHeartbeats 1000000 in
theorem r_idx (L : List (ByteArray × Int × Int)) (p : Option Addr) (c : Nat) (s : ByteArray) (eb : Nat) (w : World) (hs : w.cell? ⟨eb, 2, none⟩ = some (.string s)) (hp : SpP w L p) (hlc : L.length ≤ c) (hcm : c ≤ maxLen) :
    Calls Tryz.prog 145 #[.slice p L.length c, .func (.func 146) #[] #[.pointer (some ⟨eb, 0, none⟩)]] w fun e w' => (∃ r : Int, e = .returned (.int .i64 r) ∧ ((r = -1 ∧ look s L = (0, 999)) ∨ ∃ (k : Nat) (x : ByteArray × Int × Int), r = k ∧ L[k]? = some x ∧ look s L = x.2)) ∧ Below w.heap.size w w' := by
  have HP := hid hp
  have HS := hid hs
  have hmm : c ≤ 9223372036854775807 := by unfold maxLen at hcm; omega
  clear hp hs
  go_enter Tryz.func145, Tryz.ntmps145
  go_wp2_with fail
  go_loopw [8] (fun i wr => ∃ k : Nat, k ≤ L.length ∧ i = .int .i64 k ∧ look s L = look s (L.drop k) ∧ Below w.heap.size w wr) (fun i _ => L.length - (intOf i).toNat)
  case atStart => exact ⟨0, by omega, rfl, rfl, Below.refl _ _⟩
  case round =>
    obtain ⟨k, hk, rfl, herr, hbl⟩ := hrel
    have HR := hid herr
    have HB := hid hbl
    have hzr : w.heap.size ≤ wr.heap.size := hbl.size
    clear herr hbl
    by_cases hlt : k < L.length
    · rcases HP.out with h0 | ⟨b, rfl, hat⟩
      · rw [h0] at hlt; simp at hlt
      have HA := hid (hat.ext (S := fun _ => False) (Ext.of_below HB.out) id)
      obtain ⟨c0, c1, c2⟩ := HA.out k _ (List.getElem?_eq_getElem hlt)
      have HD := hid (List.drop_eq_getElem_cons hlt)
      have HX := hid (List.getElem?_eq_getElem hlt)
      generalize L[k] = x at c0 c1 c2 HD HX
      have HS' := (Ext.of_below (S := fun _ => False) HB.out).cell_some HS.out id
      go_wp2_with fail
      refine (r_bnd1 x s eb _ HS').mono ?_
      rintro e w2 ⟨rfl, hb2⟩
      have HB2 := hid (HB.out.trans (hb2.mono hzr))
      clear hb2 HS'
      have HE : Hid (look s L = if (x.1.toList == s.toList) = true then x.2 else look s (L.drop (k + 1))) := hid (by rw [HR.out, HD.out, look])
      generalize (x.1.toList == s.toList) = b at HE ⊢
      cases b
      · go_wp2_with fail
        go_roundw
        case rel => exact ⟨k + 1, by omega, by go_num, by rw [HE.out]; simp, HB2.out⟩
        case measure => simp [intOf]; omega
      · go_wp2_with fail
        go_ret
        exact ⟨⟨_, rfl, .inr ⟨k, x, rfl, HX.out, by rw [HE.out]; simp⟩⟩, HB2.out⟩
    · go_wp2_with fail
      go_ret
      exact ⟨⟨_, rfl, .inl ⟨rfl, by rw [HR.out, List.drop_eq_nil_of_le (by omega)]; rfl⟩⟩, HB.out⟩
end Go.Proofs.YtkgciohebloffaaGreat
/- SpansFault, the reference's. -/
namespace Go.Proofs.YtkgciohebloffaaGreat
open Go.RowKit

set_option maxHeartbeats 400000 in
theorem r_in (n lo hi : Int) (w : World) : Calls Tryz.prog 82 #[.int .i64 n, .int .i64 lo, .int .i64 hi] w fun e w' => e = .returned (.bool (decide (lo ≤ n ∧ n ≤ hi))) ∧ w = w' := by
  by_cases h1 : lo ≤ n
  · go_enter Tryz.func82, Tryz.ntmps82
    go_wp2
    go_ret
    exact ⟨by simp [h1], rfl⟩
  · have h2 : decide (lo ≤ n) = false := by simpa using h1
    go_enter Tryz.func82, Tryz.ntmps82
    go_wp2
    go_ret
    exact ⟨by simp, rfl⟩
theorem r_in_b (n lo hi : Int) (b : Bool) (hb : decide (lo ≤ n ∧ n ≤ hi) = b) (w : World) : Calls Tryz.prog 82 #[.int .i64 n, .int .i64 lo, .int .i64 hi] w fun e w' => e = .returned (.bool b) ∧ w = w' := by subst hb; exact r_in n lo hi w

theorem bdrewN' {B : Nat} {a w : World} (h : Below B a w) (n : Nat) : Below B a (w.drewN n) := ⟨h.os, h.tape, h.output, h.size, h.block⟩

/-- The error of spans, one after another. -/
def spErr : Option ByteArray → List (ByteArray × Int × Int) → Int
  | _, [] => 0
  | p, x :: r =>
    if nameB x.1.data.toList = false then 5
    else if ¬ (0 ≤ x.2.1 ∧ x.2.1 ≤ 999) ∨ ¬ (x.2.1 ≤ x.2.2 ∧ x.2.2 ≤ 999) then 1
    else if (p.elim false fun y => Op.bytesLess x.1.toList y.toList || x.1.toList == y.toList) = true then 7
    else spErr (some x.1) r

def prevS (L : List (ByteArray × Int × Int)) : Nat → Option ByteArray
  | 0 => none
  | k + 1 => (L[k]?).map (·.1)

set_option maxRecDepth 100000 in
set_option maxHeartbeats 2000000 in
theorem r_SpansFault (L : List (ByteArray × Int × Int)) (p : Option Addr) (c : Nat) (w : World) (hp : SpP w L p) (hl : L.length ≤ 3) (_hlc : L.length ≤ c) (_hcm : c ≤ maxLen) (hok : ∀ x ∈ L, SpOk x) :
    Calls Tryz.prog 34 #[.slice p L.length c] w fun e w' => e = .returned (.int .i64 (spErr none L)) ∧ Below w.heap.size w w' := by
  have HP := hid hp
  have HK := hid hok
  clear hp hok
  go_enter Tryz.func34, Tryz.ntmps34
  go_wp2_with fail
  go_loopw [10] (fun i wr => ∃ k : Nat, k ≤ L.length ∧ i = .int .i64 k ∧ spErr none L = spErr (prevS L k) (L.drop k) ∧ Below w.heap.size w wr) (fun i _ => L.length - (intOf i).toNat)
  case atStart => exact ⟨0, by omega, rfl, rfl, Below.refl _ _⟩
  case round =>
    obtain ⟨k, hk, rfl, herr, hbl⟩ := hrel
    have HR := hid herr
    have HB := hid hbl
    have hzr : w.heap.size ≤ wr.heap.size := hbl.size
    clear herr hbl
    by_cases hlt : k < L.length
    · rcases HP.out with h0 | ⟨b, rfl, hat⟩
      · rw [h0] at hlt; simp at hlt
      have HA := hid (hat.ext (S := fun _ => False) (Ext.of_below HB.out) id)
      obtain ⟨c0, c1, c2⟩ := HA.out k _ (List.getElem?_eq_getElem hlt)
      have HD := hid (List.drop_eq_getElem_cons hlt)
      have HKx := hid (HK.out _ (List.getElem_mem hlt))
      have HX := hid (List.getElem?_eq_getElem hlt)
      generalize L[k] = x at c0 c1 c2 HD HKx HX
      go_wp2_with fail
      have hsz : x.1.size ≤ 9223372036854775807 := by have := HKx.out.1; omega
      have hS : SpOk x := HKx.out
      have n0 : -1099511627776 ≤ x.2.1 ∧ x.2.1 ≤ 1099511627776 := hS.2.1
      have n1 : -1099511627776 ≤ x.2.2 ∧ x.2.2 ≤ 1099511627776 := hS.2.2
      clear hS
      have HR2 := hid (show spErr none L = spErr (prevS L k) (x :: L.drop (k + 1)) by rw [HR.out, ← HD.out])
      clear HR
      by_cases hnm : nameB x.1.data.toList = true
      case neg =>
        have hnm' : nameB x.1.data.toList = false := by simpa using hnm
        refine (q_Name x.1 false hnm' _ hsz).mono ?_
        rintro e w2 ⟨rfl, hb2⟩
        have HB2 := hid ((HB.out.alloc hzr _).trans (hb2.mono (by simp; omega)))
        go_wp2_with fail
        go_ret
        exact ⟨ret_int (by rw [HR2.out, spErr, if_pos hnm']), HB2.out⟩
      refine (q_Name x.1 true hnm _ hsz).mono ?_
      rintro e w2 ⟨rfl, hb2⟩
      have HB2 := hid ((HB.out.alloc hzr _).trans (hb2.mono (by simp; omega)))
      have hblk := (Ext.of_below (S := fun _ => False) hb2).heap (heap_new wr (.cells #[.string x.1, .int .i64 x.2.1, .int .i64 x.2.2] 114)) id
      have HN := hid hnm
      clear hb2 hnm
      have d0 : w2.cell? ⟨wr.heap.size, 0, none⟩ = some (.string x.1) := by rw [cell_of_row _ _ _ _ _ _ hblk]; rfl
      have d1 : w2.cell? ⟨wr.heap.size, 1, none⟩ = some (.int .i64 x.2.1) := by rw [cell_of_row _ _ _ _ _ _ hblk]; rfl
      have d2 : w2.cell? ⟨wr.heap.size, 2, none⟩ = some (.int .i64 x.2.2) := by rw [cell_of_row _ _ _ _ _ _ hblk]; rfl
      clear hblk
      by_cases h1 : decide (0 ≤ x.2.1 ∧ x.2.1 ≤ 999) = true
      case neg =>
        have h1' : decide (0 ≤ x.2.1 ∧ x.2.1 ≤ 999) = false := by simpa using h1
        go_wp2_with fail
        refine (r_in_b _ _ _ false h1' _).mono ?_
        rintro e w3 ⟨rfl, rfl⟩
        go_wp2_with fail
        go_ret
        exact ⟨ret_int (by rw [HR2.out, spErr, if_neg (by simp [HN.out]), if_pos (.inl (by simpa using h1))]), HB2.out⟩
      have H1 := hid h1
      go_wp2_with fail
      refine (r_in_b _ _ _ true h1 _).mono ?_
      rintro e w3 ⟨rfl, rfl⟩
      clear h1
      go_wp2_with fail
      by_cases h2 : decide (x.2.1 ≤ x.2.2 ∧ x.2.2 ≤ 999) = true
      case neg =>
        have h2' : decide (x.2.1 ≤ x.2.2 ∧ x.2.2 ≤ 999) = false := by simpa using h2
        refine (r_in_b _ _ _ false h2' _).mono ?_
        rintro e w3 ⟨rfl, rfl⟩
        go_wp2_with fail
        go_ret
        exact ⟨ret_int (by rw [HR2.out, spErr, if_neg (by simp [HN.out]), if_pos (.inr (by simpa using h2))]), HB2.out⟩
      have H2 := hid h2
      refine (r_in_b _ _ _ true h2 _).mono ?_
      rintro e w3 ⟨rfl, rfl⟩
      clear h2
      by_cases hk0 : k = 0
      · subst hk0
        go_wp2_with fail
        go_quiet (fail)
        go_wp2_with fail
        go_roundw
        case rel =>
          exact ⟨1, by omega, by go_num, by rw [HR2.out, spErr, if_neg (by simp [HN.out]), if_neg (by have a1 := H1.out; have a2 := H2.out; simp at a1 a2; omega), if_neg (by simp [prevS])]; simp only [prevS]; rw [HX.out]; rfl, bdrewN' HB2.out _⟩
        case measure => simp [intOf]; omega
      · obtain ⟨j, rfl⟩ : ∃ j, k = j + 1 := ⟨k - 1, by omega⟩
        have hj : j < L.length := by omega
        have HA2 := hid (hat.ext (S := fun _ => False) (Ext.of_below HB2.out) id)
        have e0 := (HA2.out j _ (List.getElem?_eq_getElem hj)).1
        have hpj : Hid (prevS L (j + 1) = some L[j].1) := hid (by simp [prevS, List.getElem?_eq_getElem hj])
        generalize L[j] = y at e0 hpj
        have hjw : IntKind.i64.wrap ((j : Int) + 1 - 1) = j := by rw [show (j : Int) + 1 - 1 = j by omega]; exact IntWalk.i64_in _ (by omega)
        go_wp2_with fail
        go_quiet (fail)
        have hc : Hid ((Op.bytesLess x.1.toList y.1.toList || x.1.toList == y.1.toList) = true ∨ (Op.bytesLess x.1.toList y.1.toList || x.1.toList == y.1.toList) = false) := hid (by cases (Op.bytesLess x.1.toList y.1.toList || x.1.toList == y.1.toList) <;> simp)
        generalize hcv : (Op.bytesLess x.1.toList y.1.toList || x.1.toList == y.1.toList) = cc at hc ⊢
        have HCV := hid hcv
        clear hcv
        cases cc
        · go_wp2_with fail
          go_roundw
          case rel =>
            exact ⟨j + 1 + 1, by omega, by go_num, by rw [HR2.out, spErr, if_neg (by simp [HN.out]), if_neg (by have a1 := H1.out; have a2 := H2.out; simp at a1 a2; omega), hpj.out, Option.elim, HCV.out, if_neg (by simp)]; simp only [prevS]; rw [HX.out]; rfl, bdrewN' HB2.out _⟩
          case measure => simp [intOf]; omega
        · go_wp2_with fail
          go_ret
          exact ⟨ret_int (by rw [HR2.out, spErr, if_neg (by simp [HN.out]), if_neg (by have a1 := H1.out; have a2 := H2.out; simp at a1 a2; omega), hpj.out, Option.elim, HCV.out, if_pos rfl]), bdrewN' HB2.out _⟩
    · go_wp2_with fail
      go_ret
      exact ⟨ret_int (by rw [HR.out, List.drop_eq_nil_of_le (by omega)]; rfl), HB.out⟩
end Go.Proofs.YtkgciohebloffaaGreat
