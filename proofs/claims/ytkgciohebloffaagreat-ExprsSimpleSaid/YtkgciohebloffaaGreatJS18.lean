/- Texts joined: VRng0, Ord. -/
import Derived.Test.YtkgciohebloffaaGreatJS10
import Derived.Lib.Bytealg
import Derived.Lib.Strings
/- The small functions of the program's bounds. -/
namespace Go.Proofs.YtkgciohebloffaaGreat
open Go.RowKit

set_option maxHeartbeats 400000 in
theorem v_anything (w : World) : Calls Tryz.prog 144 #[] w fun e w' => e = .returned (.agg #[.int .i64 0, .int .i64 999]) ∧ Below w.heap.size w w' := by
  go_enter Tryz.func144, Tryz.ntmps144
  go_wp2
  go_returns
  exact ⟨rfl, alloc_below _ _⟩
set_option maxHeartbeats 400000 in
theorem v_just (n : Int) (w : World) : Calls Tryz.prog 137 #[.int .i64 n] w fun e w' => e = .returned (.agg #[.int .i64 n, .int .i64 n]) ∧ Below w.heap.size w w' := by
  go_enter Tryz.func137, Tryz.ntmps137
  go_wp2
  go_returns
  exact ⟨rfl, alloc_below _ _⟩
set_option maxHeartbeats 400000 in
theorem v_truth (b : Bool) (w : World) : Calls Tryz.prog 156 #[.bool b] w fun e w' => e = .returned (.int .i64 (if b = true then 1 else 0)) ∧ w = w' := by
  cases b
  all_goals
    go_enter Tryz.func156, Tryz.ntmps156
    go_wp2
    go_ret
    exact ⟨rfl, rfl⟩
/-- What is known of a truth. -/
def kn (a n : Bool) : Int × Int := if (a || n) = true then (if a = true then (1, 1) else (0, 0)) else (0, 1)
set_option maxHeartbeats 1000000 in
theorem v_known (a n : Bool) (w : World) : Calls Tryz.prog 140 #[.bool a, .bool n] w fun e w' => e = .returned (.agg #[.int .i64 (kn a n).1, .int .i64 (kn a n).2]) ∧ Below w.heap.size w w' := by
  by_cases h : (a || n) = true
  · have hk : Hid (kn a n = ((if a = true then 1 else 0), (if a = true then 1 else 0))) := hid (by unfold kn; rw [if_pos h]; cases a <;> rfl)
    rcases (show a = true ∨ (a = false ∧ n = true) by revert h; cases a <;> simp) with rfl | ⟨rfl, rfl⟩
    all_goals
      clear h
      go_enter Tryz.func140, Tryz.ntmps140
      go_wp2_with fail
      refine (v_truth _ _).mono ?_
      rintro e w' ⟨rfl, rfl⟩
      go_wp2_with fail
      refine (v_just _ _).mono ?_
      rintro e w' ⟨rfl, hb⟩
      obtain ⟨⟨q0, q1⟩, f0, f1⟩ := blk2 ((Ext.of_below (S := fun _ => False) hb).heap (heap_new w _) id)
      have HB := hid ((alloc_below w _).trans (hb.mono (by simp)))
      clear hb
      go_wp2_with fail
      refine bodyPost_ret (v := .agg #[.int .i64 _, .int .i64 _]) (by simp [results, Tryz.results140, go_sem, q0, q1]; exact ⟨rfl, rfl⟩) rfl ⟨by rw [hk.out]; rfl, below_set2 HB.out (Nat.le_refl _) _ _⟩
  · obtain ⟨rfl, rfl⟩ : a = false ∧ n = false := by revert h; cases a <;> cases n <;> simp
    clear h
    go_enter Tryz.func140, Tryz.ntmps140
    go_wp2
    go_returns
    exact ⟨rfl, alloc_below _ _⟩
theorem v_wrapped (lo hi : Int) (w : World) (h1 : -2000 ≤ lo) (h2 : lo ≤ 2000) (h3 : -2000 ≤ hi) (h4 : hi ≤ 2000) :
    Calls Tryz.prog 138 #[.int .i64 lo, .int .i64 hi] w fun e w' => e = .returned (.agg #[.int .i64 (wrapB lo hi).1, .int .i64 (wrapB lo hi).2]) ∧ Below w.heap.size w w' := by
  by_cases c1 : 999 < lo
  · have hw : Hid (wrapB lo hi = (lo - 1000, hi - 1000)) := hid (by rw [wrapB, if_pos c1])
    go_enter Tryz.func138, Tryz.ntmps138
    go_wp2
    go_returns
    exact ⟨by rw [hw.out], alloc_below _ _⟩
  by_cases c2 : hi < 0
  · have hw : Hid (wrapB lo hi = (lo + 1000, hi + 1000)) := hid (by rw [wrapB, if_neg c1, if_pos c2])
    go_enter Tryz.func138, Tryz.ntmps138
    go_wp2
    go_returns
    exact ⟨by rw [hw.out], alloc_below _ _⟩
  by_cases c3 : lo < 0 ∨ 999 < hi
  · have hw : Hid (wrapB lo hi = (0, 999)) := hid (by rw [wrapB, if_neg c1, if_neg c2, if_pos c3])
    rcases Int.lt_or_le lo 0 with c4 | c4
    · clear c3
      go_enter Tryz.func138, Tryz.ntmps138
      go_wp2_with fail
      refine (v_anything _).mono ?_
      rintro e w' ⟨rfl, hb⟩
      obtain ⟨⟨q0, q1⟩, f0, f1⟩ := blk2 ((Ext.of_below (S := fun _ => False) hb).heap (heap_new w _) id)
      have HB := hid ((alloc_below w _).trans (hb.mono (by simp)))
      clear hb
      go_wp2_with fail
      refine bodyPost_ret (v := .agg #[.int .i64 0, .int .i64 999]) (by simp [results, Tryz.results138, go_sem, q0, q1]) rfl ⟨by rw [hw.out], below_set2 HB.out (Nat.le_refl _) _ _⟩
    · have c5 : 999 < hi := by omega
      clear c3
      go_enter Tryz.func138, Tryz.ntmps138
      go_wp2_with fail
      refine (v_anything _).mono ?_
      rintro e w' ⟨rfl, hb⟩
      obtain ⟨⟨q0, q1⟩, f0, f1⟩ := blk2 ((Ext.of_below (S := fun _ => False) hb).heap (heap_new w _) id)
      have HB := hid ((alloc_below w _).trans (hb.mono (by simp)))
      clear hb
      go_wp2_with fail
      refine bodyPost_ret (v := .agg #[.int .i64 0, .int .i64 999]) (by simp [results, Tryz.results138, go_sem, q0, q1]) rfl ⟨by rw [hw.out], below_set2 HB.out (Nat.le_refl _) _ _⟩
  · have hw : Hid (wrapB lo hi = (lo, hi)) := hid (by rw [wrapB, if_neg c1, if_neg c2, if_neg c3])
    have c4 : 0 ≤ lo := by omega
    have c5 : hi ≤ 999 := by omega
    clear c3
    go_enter Tryz.func138, Tryz.ntmps138
    go_wp2
    go_returns
    exact ⟨by rw [hw.out], alloc_below _ _⟩



theorem three_new {w : World} (o0 o1 o2 : Obj) : Below w.heap.size w (((w.alloc o0).alloc o1).alloc o2) :=
  ((alloc_below w _).trans ((alloc_below _ _).mono (by simp))).trans ((alloc_below _ _).mono (by simp; omega))
/-- Bounds of a product. -/
def prodB (x y : Int × Int) : Int × Int := if 999 < x.2 * y.2 then (0, 999) else (x.1 * y.1, x.2 * y.2)
theorem mul_in {a b : Int} (h0 : 0 ≤ a) (h1 : a ≤ 999) (k0 : 0 ≤ b) (k1 : b ≤ 999) : 0 ≤ a * b ∧ a * b ≤ 998001 :=
  ⟨Int.mul_nonneg h0 k0, by have := Int.mul_le_mul h1 k1 k0 (by omega : (0 : Int) ≤ 999); omega⟩
set_option maxHeartbeats 1000000 in
theorem v_product (x1 x2 y1 y2 : Int) (w : World) (h1 : 0 ≤ x1) (h2 : x1 ≤ x2) (h3 : x2 ≤ 999) (k1 : 0 ≤ y1) (k2 : y1 ≤ y2) (k3 : y2 ≤ 999) :
    Calls Tryz.prog 139 #[.agg #[.int .i64 x1, .int .i64 x2], .agg #[.int .i64 y1, .int .i64 y2]] w fun e w' => e = .returned (.agg #[.int .i64 (prodB (x1, x2) (y1, y2)).1, .int .i64 (prodB (x1, x2) (y1, y2)).2]) ∧ Below w.heap.size w w' := by
  obtain ⟨m1, m2⟩ := mul_in (a := x1) (b := y1) (by omega) (by omega) (by omega) (by omega)
  obtain ⟨m3, m4⟩ := mul_in (a := x2) (b := y2) (by omega) (by omega) (by omega) (by omega)
  have w1 : IntKind.i64.wrap (x1 * y1) = x1 * y1 := IntWalk.i64_in _ (by omega)
  have w2 : IntKind.i64.wrap (x2 * y2) = x2 * y2 := IntWalk.i64_in _ (by omega)
  by_cases c : 999 < x2 * y2
  · have hp : Hid (prodB (x1, x2) (y1, y2) = (0, 999)) := hid (by simp only [prodB]; rw [if_pos c])
    go_enter Tryz.func139, Tryz.ntmps139
    go_wp2_with fail
    refine (v_anything _).mono ?_
    rintro e w' ⟨rfl, hb⟩
    have hn := heap_new ((w.alloc (.cells #[.int .i64 x1, .int .i64 x2] 117)).alloc (.cells #[.int .i64 y1, .int .i64 y2] 117)) (.cells #[.int .i64 0, .int .i64 0] 117)
    obtain ⟨⟨q0, q1⟩, f0, f1⟩ := blk2 ((Ext.of_below (S := fun _ => False) hb).heap hn id)
    have HB := hid ((alloc_below w (.cells #[.int .i64 x1, .int .i64 x2] 117)).trans (((alloc_below _ (.cells #[.int .i64 y1, .int .i64 y2] 117)).trans ((alloc_below _ _).trans (hb.mono (by simp)) |>.mono (by simp))).mono (by simp)))
    clear hb hn
    simp only [World.size_alloc] at q0 q1 f0 f1
    go_wp2_with fail
    refine bodyPost_ret (v := .agg #[.int .i64 0, .int .i64 999]) (by simp [results, Tryz.results139, go_sem, q0, q1]) rfl ⟨by rw [hp.out], below_set2 HB.out (by omega) _ _⟩
  · have hp : Hid (prodB (x1, x2) (y1, y2) = (x1 * y1, x2 * y2)) := hid (by simp only [prodB]; rw [if_neg c])
    go_enter Tryz.func139, Tryz.ntmps139
    go_wp2_with fail
    go_returns
    exact ⟨by rw [hp.out], three_new _ _ _⟩
/-- Of three bounds by the first one. -/
def chB (x y z : Int × Int) : Int × Int := if 0 < x.1 then y else if x.2 = 0 then z else (min y.1 z.1, max y.2 z.2)
set_option maxHeartbeats 2000000 in
theorem v_chosen (x1 x2 y1 y2 z1 z2 : Int) (w : World) (hx : 0 ≤ x1 ∧ x1 ≤ x2 ∧ x2 ≤ 999) :
    Calls Tryz.prog 141 #[.agg #[.int .i64 x1, .int .i64 x2], .agg #[.int .i64 y1, .int .i64 y2], .agg #[.int .i64 z1, .int .i64 z2]] w fun e w' => e = .returned (.agg #[.int .i64 (chB (x1, x2) (y1, y2) (z1, z2)).1, .int .i64 (chB (x1, x2) (y1, y2) (z1, z2)).2]) ∧ Below w.heap.size w w' := by
  obtain ⟨h1, h2, h3⟩ := hx
  by_cases c : 0 < x1
  · have hp : Hid (chB (x1, x2) (y1, y2) (z1, z2) = (y1, y2)) := hid (by simp only [chB]; rw [if_pos c])
    go_enter Tryz.func141, Tryz.ntmps141
    go_wp2_with fail
    go_returns
    exact ⟨by rw [hp.out], (three_new _ _ _).trans ((alloc_below _ _).mono (by simp; omega))⟩
  by_cases c2 : (x2 == 0) = true
  · have hp : Hid (chB (x1, x2) (y1, y2) (z1, z2) = (z1, z2)) := hid (by simp only [chB]; rw [if_neg c, if_pos (by simpa using c2)])
    go_enter Tryz.func141, Tryz.ntmps141
    go_wp2_with fail
    go_returns
    exact ⟨by rw [hp.out], (three_new _ _ _).trans ((alloc_below _ _).mono (by simp; omega))⟩
  · have c3 : (x2 == 0) = false := by simpa using c2
    have hp : Hid (chB (x1, x2) (y1, y2) (z1, z2) = (min y1 z1, max y2 z2)) := hid (by simp only [chB]; rw [if_neg c, if_neg (by simpa using c2)])
    clear c2
    rcases Int.lt_or_le z1 y1 with g1 | g1 <;> rcases Int.lt_or_le y2 z2 with g2 | g2
    all_goals
      have hm : Hid ((min y1 z1, max y2 z2) = (if z1 < y1 then z1 else y1, if y2 < z2 then z2 else y2)) := hid (by congr 1 <;> split <;> omega)
      go_enter Tryz.func141, Tryz.ntmps141
      go_wp2_with fail
      go_returns
      exact ⟨by rw [hp.out, hm.out]; simp [*, Int.not_lt.2] <;> omega, (three_new _ _ _).trans ((alloc_below _ _).mono (by simp; omega))⟩
end Go.Proofs.YtkgciohebloffaaGreat
/- Names in order, plain: the lexical order of bytes; a rising list; where a search of the middle ends. -/
namespace Go.Proofs.YtkgciohebloffaaGreat

theorem bl_lt : ∀ (x y : List UInt8), Op.bytesLess x y = decide (x < y)
  | [], [] => by simp [Op.bytesLess]
  | _ :: _, [] => by simp [Op.bytesLess]
  | [], _ :: _ => by simp [Op.bytesLess]
  | a :: x, b :: y => by
    rw [Op.bytesLess, bl_lt x y]
    simp only [List.cons_lt_cons_iff]
    by_cases h1 : a < b <;> by_cases h2 : a = b <;> by_cases h3 : x < y <;> simp [h1, h2, h3]
theorem cb_range : ∀ (x y : List UInt8), -1 ≤ Lib.compareBytes x y ∧ Lib.compareBytes x y ≤ 1
  | [], [] => by simp [Lib.compareBytes]
  | _ :: _, [] => by simp [Lib.compareBytes]
  | [], _ :: _ => by simp [Lib.compareBytes]
  | a :: x, b :: y => by
    rw [Lib.compareBytes]
    have := cb_range x y
    split
    · omega
    split
    · omega
    · exact this
theorem cb_lt : ∀ (x y : List UInt8), Lib.compareBytes x y < 0 ↔ x < y
  | [], [] => by simp [Lib.compareBytes]
  | _ :: _, [] => by simp [Lib.compareBytes]
  | [], _ :: _ => by simp [Lib.compareBytes]
  | a :: x, b :: y => by
    rw [Lib.compareBytes, List.cons_lt_cons_iff, ← cb_lt x y]
    by_cases h1 : a < b
    · simp [h1]
    · by_cases h2 : b < a
      · have h3 : a ≠ b := by intro h; subst h; exact h1 h2
        simp [h1, h2, h3]
      · have h3 : a = b := by
          have := UInt8.le_antisymm (UInt8.not_lt.1 h2) (UInt8.not_lt.1 h1)
          exact this
        simp [h3]
theorem cb_eq : ∀ (x y : List UInt8), Lib.compareBytes x y = 0 ↔ x = y
  | [], [] => by simp [Lib.compareBytes]
  | _ :: _, [] => by simp [Lib.compareBytes]
  | [], _ :: _ => by simp [Lib.compareBytes]
  | a :: x, b :: y => by
    rw [Lib.compareBytes, List.cons.injEq, ← cb_eq x y]
    by_cases h1 : a < b
    · have h3 : a ≠ b := by intro h; subst h; exact absurd h1 (UInt8.lt_irrefl a)
      simp [h1, h3]
    · by_cases h2 : b < a
      · have h3 : a ≠ b := by intro h; subst h; exact h1 h2
        simp [h1, h2, h3]
      · have h3 : a = b := UInt8.le_antisymm (UInt8.not_lt.1 h2) (UInt8.not_lt.1 h1)
        simp [h3]
/-- Rising. -/
def Rising : List (List UInt8) → Prop
  | [] => True
  | x :: r => (∀ y ∈ r, x < y) ∧ Rising r
theorem Rising.at : ∀ {l : List (List UInt8)}, Rising l → ∀ (i j : Nat) (x y : List UInt8), i < j → l[i]? = some x → l[j]? = some y → x < y
  | [], _, _, _, _, _, _, h, _ => by simp at h
  | a :: r, h, 0, j + 1, x, y, _, hx, hy => by
    simp at hx hy; subst hx; exact h.1 y (List.mem_of_getElem? hy)
  | a :: r, h, i + 1, j + 1, x, y, hij, hx, hy => by
    simp at hx hy; exact h.2.at i j x y (by omega) hx hy
end Go.Proofs.YtkgciohebloffaaGreat
