/- Texts joined: VRange, VRng1. -/
import Derived.Test.YtkgciohebloffaaGreatJS19
import Derived.Test.YtkgciohebloffaaGreatJS11
/- spanRanges: the bounds of a variable by spans, as a function value; and what the walk of rangeOf holds. -/
namespace Go.Proofs.YtkgciohebloffaaGreat
open Go.RowKit

/-- Block lb holds the spans that a closure asks. -/
def Asks (w : World) (lb : Nat) (L : List (ByteArray × Int × Int)) (lp : Option Addr) (lc : Nat) : Prop := w.cell? ⟨lb, 0, none⟩ = some (.slice lp L.length lc) ∧ SpP w L lp
theorem Asks.ext {w w' : World} {lb : Nat} {L : List (ByteArray × Int × Int)} {lp : Option Addr} {lc : Nat} (h : Asks w lb L lp lc) (e : Ext (fun _ => False) w w') : Asks w' lb L lp lc :=
  ⟨e.cell_some h.1 id, h.2.ext e (fun _ _ => id)⟩

set_option maxRecDepth 100000 in
set_option maxHeartbeats 4000000 in
theorem v_range1 (L : List (ByteArray × Int × Int)) (lp : Option Addr) (lc : Nat) (s : ByteArray) (lb : Nat) (w : World) (ha : Asks w lb L lp lc) (hl : L.length ≤ 4) (hlc : L.length ≤ lc) (hcm : lc ≤ maxLen) (hr : Rising (spKeys L)) :
    Calls Tryz.prog 142 #[.string s, .pointer (some ⟨lb, 0, none⟩)] w fun e w' => e = .returned (.agg #[.int .i64 (look s L).1, .int .i64 (look s L).2]) ∧ Below w.heap.size w w' := by
  have HA := hid ha
  have HR := hid hr
  have hlb : lb < w.heap.size := World.block_lt_of_cell? _ _ ha.1
  have hcl := ha.1
  have HN := hid (heap_new w (.cells #[.int .i64 0, .int .i64 0] 117))
  have HB := hid (alloc_below w (.cells #[.int .i64 0, .int .i64 0] 117))
  have HP := hid ((ha.2.ext (S := fun _ => False) (Ext.of_below HB.out) (fun _ _ => id)))
  clear ha hr
  go_enter Tryz.func142, Tryz.ntmps142
  go_wp2_with fail
  refine (v_find L lp lc s _ HP.out hl hlc hcm HR.out).mono ?_
  rintro e w2 ⟨⟨x, b, rfl, hx⟩, hb⟩
  have HN2 := hid ((Ext.of_below (S := fun _ => False) hb).heap HN.out id)
  have HB2 := hid (HB.out.trans (hb.mono (by simp)))
  have HX := hid hx
  clear hb hx
  obtain ⟨⟨q0, q1⟩, f0, f1⟩ := blk2 HN2.out
  have hlt2 : w.heap.size < w2.heap.size := World.block_lt_of_cell? _ _ q0
  cases b
  · have HX' := hid (show look s L = (0, 999) by rw [HX.out]; rfl)
    go_wp2_with fail
    refine (v_anything _).mono ?_
    rintro e w3 ⟨rfl, hb3⟩
    have HN3 := hid ((Ext.of_below (S := fun _ => False) hb3).heap (((Ext.refl (S := fun _ => False) w2).alloc (.cells #[.string x.1, .int .i64 x.2.1, .int .i64 x.2.2] 114)).heap HN2.out id) id)
    have HB3 := hid ((HB2.out.alloc (by omega) (.cells #[.string x.1, .int .i64 x.2.1, .int .i64 x.2.2] 114)).trans (hb3.mono (by simp; omega)))
    clear hb3 q0 q1 f0 f1
    obtain ⟨⟨q0, q1⟩, f0, f1⟩ := blk2 HN3.out
    go_wp2_with fail
    refine bodyPost_ret (v := .agg #[.int .i64 0, .int .i64 999]) (by simp [results, Tryz.results142, go_sem, q0, q1]) rfl ⟨by rw [HX'.out], below_set2 HB3.out (by omega) _ _⟩
  · have HX' := hid (show look s L = x.2 by rw [HX.out]; rfl)
    go_wp2_with fail
    refine bodyPost_ret (v := .agg #[.int .i64 x.2.1, .int .i64 x.2.2]) (by simp [results, Tryz.results142, go_sem, World.cell?_alloc_past, hlt2, q0, q1]) rfl ⟨by rw [HX'.out], ?_⟩
    exact (below_set2 HB2.out (by omega) _ _).alloc (by simp; omega) _

set_option maxHeartbeats 1000000 in
theorem v_spanRanges (L : List (ByteArray × Int × Int)) (lp : Option Addr) (lc : Nat) (w : World) (hp : SpP w L lp) :
    Calls Tryz.prog 81 #[.slice lp L.length lc] w fun e w' => e = .returned (.func (.func 142) #[] #[.pointer (some ⟨w.heap.size, 0, none⟩)]) ∧ Asks w' w.heap.size L lp lc ∧ Below w.heap.size w w' := by
  have HP := hid (hp.ext (S := fun _ => False) ((Ext.refl w).alloc (.cells #[.slice lp L.length lc] 60)) (fun _ _ => id))
  clear hp
  go_enter Tryz.func81, Tryz.ntmps81
  go_wp2_with fail
  go_ret
  exact ⟨rfl, ⟨by have h := cell_of_row _ _ 0 _ _ _ (heap_new w (.cells #[.slice lp L.length lc] 60)); rw [h]; rfl, HP.out⟩, alloc_below _ _⟩

theorem row_setCell {w : World} {b i : Nat} {C : Array Value} {u : Value} {t : TypeId} (h : w.heap[b]? = some (.cells C t (0, 0))) : (w.setCell ⟨b, i, none⟩ u).heap[b]? = some (.cells (C.setIfInBounds i u) t (0, 0)) := by
  have hlt := lt_of_block h
  have h' : w.heap[b] = .cells C t (0, 0) := by simpa [Array.getElem?_eq_getElem hlt] using h
  show (w.heap.modify b _)[b]? = _
  rw [Array.getElem?_eq_getElem (by simpa using hlt), Array.getElem_modify_self, h']
  rfl
end Go.Proofs.YtkgciohebloffaaGreat
/- rangeOf: what its walk holds of the arguments' bounds. -/
namespace Go.Proofs.YtkgciohebloffaaGreat
open Go.RowKit

/-- What holds behind k rounds of rangeOf's loop. -/
def VBRel (L : List (ByteArray × Int × Int)) (op n : Int) (s : ByteArray) (a : F) (p : Option Addr) (c : Nat) (w : World) (k : Nat) (wr : World) : Prop :=
  ∃ l : List (Int × Int), l.length = 3 ∧ (∀ j, j < k → l.getD j (0, 0) = (bndF L a).getD j (0, 0)) ∧ (∀ j, k ≤ j → l.getD j (0, 0) = (0, 0)) ∧
    wr.heap[w.heap.size]? = some (.cells #[.int .i64 op, .int .i64 n, .string s, .slice p a.len c] 28 (0, 0)) ∧
    wr.heap[w.heap.size + 1]? = some (.cells #[.int .i64 0, .int .i64 0] 117 (0, 0)) ∧
    wr.heap[w.heap.size + 2]? = some (.cells (prV l).toArray 169 (0, 0)) ∧ Below w.heap.size w wr ∧ w.heap.size + 3 ≤ wr.heap.size

theorem prV_set : ∀ (l : List (Int × Int)) (k : Nat) (x : Int × Int), k < l.length → ((prV l).set (k * 2) (.int .i64 x.1)).set (k * 2 + 1) (.int .i64 x.2) = prV (l.set k x)
  | y :: r, 0, x, _ => by simp [prV]
  | y :: r, k + 1, x, h => by
    have := prV_set r k x (by simpa using h)
    rw [show (k + 1) * 2 = k * 2 + 1 + 1 by omega]
    simp [prV, this]
theorem three_start (w : World) (o0 o1 : Obj) (C : Array Value) (T : TypeId) : (((w.alloc o0).alloc o1).alloc (.cells C T)).heap[w.heap.size + 2]? = some (.cells C T (0, 0)) := by
  have h := heap_new ((w.alloc o0).alloc o1) (.cells C T)
  simpa using h
theorem two_start (w : World) (o0 o2 : Obj) (C : Array Value) (T : TypeId) : (((w.alloc o0).alloc (.cells C T)).alloc o2).heap[w.heap.size + 1]? = some (.cells C T (0, 0)) := by
  have h := ((Ext.refl (S := fun _ => False) _).alloc o2).heap (heap_new (w.alloc o0) (.cells C T)) id
  simpa using h
theorem one_start (w : World) (o1 o2 : Obj) (C : Array Value) (T : TypeId) : (((w.alloc (.cells C T)).alloc o1).alloc o2).heap[w.heap.size]? = some (.cells C T (0, 0)) :=
  ((((Ext.refl (S := fun _ => False) _).alloc o1).alloc o2)).heap (heap_new w (.cells C T)) id
theorem VBRel.start (L : List (ByteArray × Int × Int)) (op n : Int) (s : ByteArray) (a : F) (p : Option Addr) (c : Nat) (w : World) :
    VBRel L op n s a p c w 0 (((w.alloc (.cells #[.int .i64 op, .int .i64 n, .string s, .slice p a.len c] 28)).alloc (.cells #[.int .i64 0, .int .i64 0] 117)).alloc (.cells #[.int .i64 0, .int .i64 0, .int .i64 0, .int .i64 0, .int .i64 0, .int .i64 0] 169)) :=
  ⟨[(0, 0), (0, 0), (0, 0)], rfl, fun j h => by omega, fun j _ => by rcases j with _ | _ | _ | j <;> rfl, one_start _ _ _ _ _, two_start _ _ _ _ _, three_start _ _ _ _ _, three_new _ _ _, by simp⟩
/-- A round's end. -/
theorem VBRel.next {L : List (ByteArray × Int × Int)} {op n : Int} {s : ByteArray} {a : F} {p : Option Addr} {c : Nat} {w wr w3 : World} {k : Nat} {b1 b2 : Int} (h : VBRel L op n s a p c w k wr) (e : Ext (fun _ => False) wr w3) (hk : k < 3) (hb : (bndF L a).getD k (0, 0) = (b1, b2)) :
    VBRel L op n s a p c w (k + 1) ((w3.setCell ⟨w.heap.size + 2, k * 2, none⟩ (.int .i64 b1)).setCell ⟨w.heap.size + 2, k * 2 + 1, none⟩ (.int .i64 b2)) := by
  obtain ⟨l, hl, h1, h2, h3, h4, h5, h6, h7⟩ := h
  have e2 : Ext (· = w.heap.size + 2) w3 ((w3.setCell ⟨w.heap.size + 2, k * 2, none⟩ (.int .i64 b1)).setCell ⟨w.heap.size + 2, k * 2 + 1, none⟩ (.int .i64 b2)) := ((Ext.refl (S := (· = w.heap.size + 2)) w3).setCell (p := ⟨w.heap.size + 2, k * 2, none⟩) (.inl rfl) (.int .i64 b1)).setCell (p := ⟨w.heap.size + 2, k * 2 + 1, none⟩) (.inl rfl) (.int .i64 b2)
  refine ⟨l.set k (b1, b2), by simp [hl], fun j hj => ?_, fun j hj => ?_, e2.heap (e.heap h3 id) (by omega), e2.heap (e.heap h4 id) (by omega), ?_, ?_, ?_⟩
  · by_cases hjk : j = k
    · subst hjk; rw [hb]; simp [List.getD_eq_getElem?_getD, hl, hk]
    · rw [← h1 j (by omega)]; simp [List.getD_eq_getElem?_getD, Ne.symm hjk]
  · have h := h2 j (by omega)
    rw [List.getD_eq_getElem?_getD] at h ⊢
    rw [List.getElem?_set_ne (by omega)]; exact h
  · have := row_setCell (i := k * 2 + 1) (u := .int .i64 b2) (row_setCell (i := k * 2) (u := .int .i64 b1) (e.heap h5 id))
    rw [this]
    have hp := prV_set l k (b1, b2) (by omega)
    rw [← hp]
    simp
  · have hz := e.size
    exact ((below_ext h6 e (by omega)).setCell (p := ⟨w.heap.size + 2, k * 2, none⟩) (by simp) (.int .i64 b1)).setCell (p := ⟨w.heap.size + 2, k * 2 + 1, none⟩) (by simp) (.int .i64 b2)
  · have := e2.size; have := e.size; omega
theorem VBRel.cells {L : List (ByteArray × Int × Int)} {op n : Int} {s : ByteArray} {a : F} {p : Option Addr} {c : Nat} {w wr : World} {k : Nat} (h : VBRel L op n s a p c w k wr) (j : Nat) (hj : j < 3) :
    ∃ x : Int × Int, (wr.cell? ⟨w.heap.size + 2, j * 2, none⟩ = some (.int .i64 x.1) ∧ wr.cell? ⟨w.heap.size + 2, j * 2 + 1, none⟩ = some (.int .i64 x.2)) ∧ (wr.frozen? ⟨w.heap.size + 2, j * 2, none⟩ = false ∧ wr.frozen? ⟨w.heap.size + 2, j * 2 + 1, none⟩ = false) ∧ (j < k → x = (bndF L a).getD j (0, 0)) ∧ (k ≤ j → x = (0, 0)) := by
  obtain ⟨l, hl, h1, h2, h3, h4, h5, h6, h7⟩ := h
  have hx : l[j]? = some (l.getD j (0, 0)) := by simp [List.getD_eq_getElem?_getD, hl, hj]
  obtain ⟨g0, g1⟩ := prV_get l j _ hx
  refine ⟨l.getD j (0, 0), ⟨?_, ?_⟩, ⟨?_, ?_⟩, h1 j, h2 j⟩
  · rw [cell_of_row _ _ _ _ _ _ h5]; simpa using g0
  · rw [cell_of_row _ _ _ _ _ _ h5]; simpa using g1
  · simp [World.frozen?, h5]
  · simp [World.frozen?, h5]
theorem bndF_getD (L : List (ByteArray × Int × Int)) : ∀ (f : F) (k : Nat) {op n s a r}, f.drop k = .cons op n s a r → (bndF L f).getD k (0, 0) = bndE L op n s a
  | .nil, 0, _, _, _, _, _, h => by simp [F.drop] at h
  | .cons _ _ _ _ _, 0, _, _, _, _, _, h => by simp only [F.drop] at h; cases h; rfl
  | .nil, _ + 1, _, _, _, _, _, h => by simp [F.drop] at h
  | .cons _ _ _ _ r, k + 1, _, _, _, _, _, h => by
    rw [bndF_cons]
    exact bndF_getD L r k h
theorem kn_less {x1 x2 y1 y2 : Int} (hx : x1 ≤ x2) (hy : y1 ≤ y2) : kn (decide (x2 < y1)) (decide (y2 ≤ x1)) = (tr (x2 < y1), tr (x1 < y2)) := by
  unfold kn tr
  by_cases h1 : x2 < y1
  · simp [h1, show x1 < y2 by omega]
  · by_cases h2 : y2 ≤ x1
    · simp [h1, h2, show ¬ x1 < y2 by omega]
    · simp [h1, h2, show x1 < y2 by omega]
theorem kn_not {x1 x2 : Int} (hx : 0 ≤ x1 ∧ x1 ≤ x2) : kn (x2 == 0) (decide (0 < x1)) = (tr (x2 = 0), tr (x1 = 0)) := by
  unfold kn tr
  by_cases h1 : x2 = 0
  · simp [h1, show x1 = 0 by omega]
  · by_cases h2 : 0 < x1
    · simp [h1, h2, show ¬ x1 = 0 by omega]
    · simp [h1, show x1 = 0 by omega]
theorem kn_same {x1 x2 y1 y2 : Int} {A B : Bool} (_hx : x1 ≤ x2) (_hy : y1 ≤ y2) (hA : A = true ↔ (x1 = x2 ∧ y1 = y2 ∧ x1 = y1)) (hB : B = true ↔ (x2 < y1 ∨ y2 < x1)) : comb 7 [(x1, x2), (y1, y2)] = kn A B := by
  show (tr (x1 = x2 ∧ y1 = y2 ∧ x1 = y1), tr (¬ (x2 < y1 ∨ y2 < x1))) = kn A B
  unfold kn tr
  by_cases a : (x1 = x2 ∧ y1 = y2 ∧ x1 = y1)
  · have b : ¬ (x2 < y1 ∨ y2 < x1) := by omega
    rw [if_pos a, if_pos b, hA.2 a]; rfl
  · have hA' : A = false := by cases A; rfl; exact absurd (hA.1 rfl) a
    by_cases b : (x2 < y1 ∨ y2 < x1)
    · rw [if_neg a, if_neg (fun x => x b), hA', hB.2 b]; rfl
    · have hB' : B = false := by cases B; rfl; exact absurd (hB.1 rfl) b
      rw [if_neg a, if_pos b, hA', hB']; rfl
end Go.Proofs.YtkgciohebloffaaGreat
