/- Texts joined: VBack, Stk. -/
import Derived.Test.YtckbhlnncokigaaGreatJC28
import Derived.Test.YtckbhlnncokigaaGreatJC29
import Derived.Test.YtckbhlnncokigaaGreatJC20
import Derived.Test.YtckbhlnncokigaaGreatJC11
/- Back, the program's. -/
namespace Go.Proofs.YtckbhlnncokigaaGreat
open Go.RowKit

/-- What Back answers. -/
def bkAns (L : List (Int × Int × ByteArray)) : F × Int := if cErr L 0 ≠ 0 then (zeroE, cErr L 0) else bkOf L

set_option maxRecDepth 100000 in
set_option maxHeartbeats 4000000 in
theorem v_Back (L : List (Int × Int × ByteArray)) (p : Option Addr) (c : Nat) (w : World) (hp : WdP w L p) (hl : L.length ≤ 2000) (hlc : L.length ≤ c) (hcm : c ≤ maxLen) (hok : ∀ x ∈ L, WdOk x) :
    Calls Tryz.prog 40 #[.slice p L.length c] w (GotBk (bkAns L) w) := by
  have HP := hid hp
  have HK := hid hok
  have E0 := hid ((Ext.refl (S := fun _ => False) w).alloc (.cells #[.int .i64 0, .int .i64 0, .string ⟨#[]⟩, .slice none 0 0] 28))
  have HN := hid (heap_new w (.cells #[.int .i64 0, .int .i64 0, .string ⟨#[]⟩, .slice none 0 0] 28))
  have HB := hid (alloc_below w (.cells #[.int .i64 0, .int .i64 0, .string ⟨#[]⟩, .slice none 0 0] 28))
  have hz1 : w.heap.size + 1 = (w.alloc (.cells #[.int .i64 0, .int .i64 0, .string ⟨#[]⟩, .slice none 0 0] 28)).heap.size := by simp
  clear hp hok
  go_enter Tryz.func40, Tryz.ntmps40
  go_wp2_with fail
  generalize w.alloc (.cells #[.int .i64 0, .int .i64 0, .string ⟨#[]⟩, .slice none 0 0] 28) = w0 at *
  refine (v_checkCode L p c _ (HP.out.ext E0.out (fun _ _ => id)) hl hlc hcm HK.out).mono ?_
  rintro e w1 ⟨rfl, hb1⟩
  have E1 := hid (E0.out.trans (Ext.of_below hb1))
  have HB1 := hid (HB.out.trans (hb1.mono (by omega)))
  have HN1 := hid ((Ext.of_below (S := fun _ => False) hb1).heap HN.out id)
  have hz2 : w.heap.size + 1 ≤ w1.heap.size := by have := hb1.size; omega
  clear hb1 E0 HB HN
  obtain ⟨⟨p0, p1, p2, p3⟩, f0, f1, f2, f3⟩ := blk4 HN1.out
  generalize hce : cErr L 0 = er
  have CE := hid hce
  clear hce
  by_cases he : er = 0
  case neg =>
    have hne : (er != 0) = true := by simpa using he
    have HA := hid (show bkAns L = (zeroE, er) by rw [bkAns, if_pos (by rw [CE.out]; exact he), CE.out])
    clear he
    go_wp2_with fail
    obtain ⟨u0, u1, u2, u3⟩ := set4 (a0 := .int .i64 0) (a1 := .int .i64 0) (a2 := .string ⟨#[]⟩) (a3 := .slice none 0 0) p0 p1 p2 p3
    have e4 : Ext (· = w.heap.size) w1 ((((w1.setCell ⟨w.heap.size, 0, none⟩ (.int .i64 0)).setCell ⟨w.heap.size, 1, none⟩ (.int .i64 0)).setCell ⟨w.heap.size, 2, none⟩ (.string ⟨#[]⟩)).setCell ⟨w.heap.size, 3, none⟩ (.slice none 0 0)) := set4_ext (S := (· = w.heap.size)) (Ext.refl w1) (.inl rfl)
    generalize ((((w1.setCell ⟨w.heap.size, 0, none⟩ (.int .i64 0)).setCell ⟨w.heap.size, 1, none⟩ (.int .i64 0)).setCell ⟨w.heap.size, 2, none⟩ (.string ⟨#[]⟩)).setCell ⟨w.heap.size, 3, none⟩ (.slice none 0 0)) = w4 at *
    exact bodyPost_ret (v := .tuple #[.agg #[.int .i64 0, .int .i64 0, .string ⟨#[]⟩, .slice none 0 0], .int .i64 er]) (by simp [results, Tryz.results40, go_sem, u0, u1, u2, u3]) rfl (zero_got HA.out (e4.below HB1.out (fun i hi e => by omega)))
  subst he
  clear p0 p1 p2 p3 f0 f1 f2 f3
  go_wp2_with fail
  refine (v_workE L p c _ (HP.out.ext E1.out (fun _ _ => id)) hl hlc hcm HK.out CE.out).mono ?_
  rintro e w2 ⟨⟨op, n, s, a, q, cq, fa, mm, rfl, hbk, hra, hac, hcq, hfa, hfi⟩, hb2⟩
  have HX := hid hbk
  have HB2 := hid (HB1.out.trans (hb2.mono (by omega)))
  have HN2 := hid ((Ext.of_below (S := fun _ => False) hb2).heap HN1.out id)
  have EA := (Ext.refl (S := fun _ => False) w2).alloc (.cells #[.int .i64 op, .int .i64 n, .string s, .slice q a.len cq] 28)
  have hz3 : w.heap.size + 1 ≤ w2.heap.size := by have := hb2.size; omega
  have HR := hid (And.intro (hra.ext EA (fun _ _ => id)) (And.intro hac (And.intro hcq (And.intro hfi (show ∀ b ∈ fa, w.heap.size + 1 ≤ b from fun b hb => by have := hfa b hb; omega)))))
  have HBA := hid (HB2.out.alloc (by omega) (.cells #[.int .i64 op, .int .i64 n, .string s, .slice q a.len cq] 28))
  have HNA := hid (EA.heap HN2.out id)
  have HE := hid (heap_new w2 (.cells #[.int .i64 op, .int .i64 n, .string s, .slice q a.len cq] 28))
  have hzA : w2.heap.size + 1 = (w2.alloc (.cells #[.int .i64 op, .int .i64 n, .string s, .slice q a.len cq] 28)).heap.size := by simp
  clear hbk hb2 hra hac hcq hfa hfi EA HB2 HN2
  go_wp2_with fail
  generalize hgb : w2.heap.size = eb at *
  have HGB := hid hgb
  clear hgb
  generalize w2.alloc (.cells #[.int .i64 op, .int .i64 n, .string s, .slice q a.len cq] 28) = w3 at *
  refine (p_CheckExpr op n s a q cq fa _ HR.out.1 HR.out.2.1 HR.out.2.2.1 HR.out.2.2.2.1).mono ?_
  rintro e w4 ⟨rfl, hb4⟩
  have E4 := hid (Ext.of_below (S := fun _ => False) hb4)
  have HB4 := hid (HBA.out.trans (hb4.mono (by omega)))
  have HN4 := hid (E4.out.heap HNA.out id)
  have HE4 := hid (E4.out.heap HE.out id)
  have HR4 := hid (HR.out.1.ext E4.out (fun _ _ => id))
  clear hb4
  obtain ⟨⟨q0, q1, q2, q3⟩, _⟩ := blk4 HE4.out
  obtain ⟨⟨p0, p1, p2, p3⟩, f0, f1, f2, f3⟩ := blk4 HN4.out
  generalize hge : errE op n s a 1 = er
  have GE := hid hge
  clear hge
  by_cases he : er = 0
  case neg =>
    have hne : (er != 0) = true := by simpa using he
    have HA := hid (show bkAns L = (zeroE, er) by
      rw [bkAns, if_neg (by rw [CE.out]; simp)]; unfold bkOf; rw [HX.out]; dsimp only; rw [GE.out, if_pos he])
    clear he
    go_wp2_with fail
    obtain ⟨u0, u1, u2, u3⟩ := set4 (a0 := .int .i64 0) (a1 := .int .i64 0) (a2 := .string ⟨#[]⟩) (a3 := .slice none 0 0) p0 p1 p2 p3
    have e4 : Ext (· = w.heap.size) w4 ((((w4.setCell ⟨w.heap.size, 0, none⟩ (.int .i64 0)).setCell ⟨w.heap.size, 1, none⟩ (.int .i64 0)).setCell ⟨w.heap.size, 2, none⟩ (.string ⟨#[]⟩)).setCell ⟨w.heap.size, 3, none⟩ (.slice none 0 0)) := set4_ext (S := (· = w.heap.size)) (Ext.refl w4) (.inl rfl)
    generalize ((((w4.setCell ⟨w.heap.size, 0, none⟩ (.int .i64 0)).setCell ⟨w.heap.size, 1, none⟩ (.int .i64 0)).setCell ⟨w.heap.size, 2, none⟩ (.string ⟨#[]⟩)).setCell ⟨w.heap.size, 3, none⟩ (.slice none 0 0)) = w5 at *
    exact bodyPost_ret (v := .tuple #[.agg #[.int .i64 0, .int .i64 0, .string ⟨#[]⟩, .slice none 0 0], .int .i64 er]) (by simp [results, Tryz.results40, go_sem, u0, u1, u2, u3]) rfl (zero_got HA.out (e4.below HB4.out (fun i hi e => by omega)))
  subst he
  have HA := hid (show bkAns L = (.cons op n s a .nil, 0) by
    rw [bkAns, if_neg (by rw [CE.out]; simp)]; unfold bkOf; rw [HX.out]; dsimp only; rw [GE.out, if_neg (by simp)])
  go_wp2_with fail
  obtain ⟨u0, u1, u2, u3⟩ := set4 (a0 := .int .i64 op) (a1 := .int .i64 n) (a2 := .string s) (a3 := .slice q a.len cq) p0 p1 p2 p3
  have e4 : Ext (· = w.heap.size) w4 ((((w4.setCell ⟨w.heap.size, 0, none⟩ (.int .i64 op)).setCell ⟨w.heap.size, 1, none⟩ (.int .i64 n)).setCell ⟨w.heap.size, 2, none⟩ (.string s)).setCell ⟨w.heap.size, 3, none⟩ (.slice q a.len cq)) := set4_ext (S := (· = w.heap.size)) (Ext.refl w4) (.inl rfl)
  generalize ((((w4.setCell ⟨w.heap.size, 0, none⟩ (.int .i64 op)).setCell ⟨w.heap.size, 1, none⟩ (.int .i64 n)).setCell ⟨w.heap.size, 2, none⟩ (.string s)).setCell ⟨w.heap.size, 3, none⟩ (.slice q a.len cq)) = w5 at *
  exact bodyPost_ret (v := .tuple #[.agg #[.int .i64 op, .int .i64 n, .string s, .slice q a.len cq], .int .i64 0]) (by simp [results, Tryz.results40, go_sem, u0, u1, u2, u3]) rfl ⟨⟨op, n, s, a, q, cq, fa, by rw [HA.out], by rw [HA.out], HR4.out.ext e4 (fun b hb e => by have := HR.out.2.2.2.2 b hb; omega), HR.out.2.1, HR.out.2.2.1, HR.out.2.2.2.1, fun b hb => by have := HR.out.2.2.2.2 b hb; omega⟩, e4.below HB4.out (fun i hi e => by omega)⟩
end Go.Proofs.YtckbhlnncokigaaGreat
/- Stack: the places that an expression needs; that the falling order of the arguments is the best of all. Plain. -/
namespace Go.Proofs.YtckbhlnncokigaaGreat
open Go.RowKit

/-- The greatest of what waits and what is needed, in the order of the list. -/
def plG : Int → List Int → Int → Int
  | _, [], m => m
  | k, x :: r, m => plG (k + 1) r (max m (k + x))
def srt (l : List Int) : List Int := l.mergeSort fun x y => decide (y ≤ x)
def plL (l : List Int) : Int := plG 0 (srt l) 1
def plF : F → List Int
  | .nil => []
  | .cons _ _ _ a r => plL (plF a) :: plF r
def upd (m b : Int) : Int := if (b == 0) = true then m else if decide (m < b) = true then m else b
/-- The best of all orders, behind those that have been tried. -/
def tryN : Nat → List Int → Int → Int → Int → Int
  | 0, _, _, m, b => upd m b
  | n + 1, l, wt, m, b => (List.range (n + 1)).foldl (fun b i => tryN n (l.eraseIdx i) (wt + 1) (max m (wt + l.getD i 0)) b) b
def stL (l : List Int) : Int := if l = [] then 1 else tryN l.length l 0 0 0
def stF : F → List Int
  | .nil => []
  | .cons _ _ _ a r => stL (stF a) :: stF r

theorem plF_length : ∀ f : F, (plF f).length = f.len
  | .nil => rfl
  | .cons _ _ _ _ r => by simp [plF, F.len, plF_length r]
theorem stF_length : ∀ f : F, (stF f).length = f.len
  | .nil => rfl
  | .cons _ _ _ _ r => by simp [stF, F.len, stF_length r]
theorem upd_pos {m b : Int} (h : 1 ≤ b) : upd m b = min m b := by
  unfold upd
  rw [if_neg (by simp; omega)]
  by_cases hm : m < b
  · rw [if_pos (by simpa using hm)]; omega
  · rw [if_neg (by simpa using hm)]; omega
theorem upd_zero (m : Int) : upd m 0 = m := rfl
theorem srt_perm (l : List Int) : (srt l).Perm l := List.mergeSort_perm _ _
theorem srt1 (a : Int) : srt [a] = [a] := by simp [srt]
theorem srt_sorted (l : List Int) : (srt l).Pairwise fun x y => y ≤ x := by
  have h := List.pairwise_mergeSort (le := fun x y : Int => decide (y ≤ x)) (fun a b c h1 h2 => by simp at *; omega) (fun a b => by simp; omega) l
  exact h.imp fun h => by simpa using h
/-- What is sorted and has the same elements is the same. -/
theorem srt_eq {l s : List Int} (hp : s.Perm l) (hs : s.Pairwise fun x y => y ≤ x) : srt l = s :=
  ((srt_perm l).trans hp.symm).eq_of_pairwise (fun a b _ _ h1 h2 => by omega) (srt_sorted l) hs
theorem stL_one {a : Int} (h : 1 ≤ a) : stL [a] = plL [a] := by
  have e1 : stL [a] = max 0 (0 + a) := by
    simp [stL, tryN, upd]
  rw [e1, plL, srt1]
  simp only [plG]
  omega
theorem plL_two {a b x y : Int} (h : srt [a, b] = [x, y]) : plL [a, b] = max (max 1 (0 + x)) (0 + 1 + y) := by rw [plL, h]; rfl
theorem plL_three {a b c x y z : Int} (h : srt [a, b, c] = [x, y, z]) : plL [a, b, c] = max (max (max 1 (0 + x)) (0 + 1 + y)) (0 + 1 + 1 + z) := by rw [plL, h]; rfl
theorem stL_two {a b : Int} (ha : 1 ≤ a) (hb : 1 ≤ b) : stL [a, b] = plL [a, b] := by
  have e1 : stL [a, b] = upd (max (max 0 (0 + b)) (0 + 1 + a)) (upd (max (max 0 (0 + a)) (0 + 1 + b)) 0) := by
    simp [stL, tryN, List.range_succ]
  rw [e1, upd_zero, upd_pos (by omega)]
  rcases Int.le_total b a with h | h
  · rw [plL_two (srt_eq (s := [a, b]) (List.Perm.refl _) (by simp; omega))]; omega
  · rw [plL_two (srt_eq (s := [b, a]) (List.Perm.swap _ _ _) (by simp; omega))]; omega
theorem six_min {m1 m2 m3 m4 m5 m6 T : Int} (h1 : T ≤ m1) (h2 : T ≤ m2) (h3 : T ≤ m3) (h4 : T ≤ m4) (h5 : T ≤ m5) (h6 : T ≤ m6) (h : m1 = T ∨ m2 = T ∨ m3 = T ∨ m4 = T ∨ m5 = T ∨ m6 = T) :
    min m6 (min m5 (min m4 (min m3 (min m2 m1)))) = T := by
  rcases h with h | h | h | h | h | h <;> omega
set_option maxHeartbeats 2000000 in
theorem stL_three {a b c : Int} (ha : 1 ≤ a) (hb : 1 ≤ b) (hc : 1 ≤ c) : stL [a, b, c] = plL [a, b, c] := by
  have e1 : stL [a, b, c] =
      upd (max (max (max 0 (0 + c)) (0 + 1 + b)) (0 + 1 + 1 + a)) (upd (max (max (max 0 (0 + c)) (0 + 1 + a)) (0 + 1 + 1 + b))
      (upd (max (max (max 0 (0 + b)) (0 + 1 + c)) (0 + 1 + 1 + a)) (upd (max (max (max 0 (0 + b)) (0 + 1 + a)) (0 + 1 + 1 + c))
      (upd (max (max (max 0 (0 + a)) (0 + 1 + c)) (0 + 1 + 1 + b)) (upd (max (max (max 0 (0 + a)) (0 + 1 + b)) (0 + 1 + 1 + c)) 0))))) := by
    simp [stL, tryN, List.range_succ]
  rw [e1, upd_zero]
  rw [upd_pos (b := max (max (max 0 (0 + a)) (0 + 1 + b)) (0 + 1 + 1 + c)) (by omega)]
  rw [upd_pos (m := max (max (max 0 (0 + b)) (0 + 1 + a)) (0 + 1 + 1 + c)) (by omega)]
  rw [upd_pos (m := max (max (max 0 (0 + b)) (0 + 1 + c)) (0 + 1 + 1 + a)) (by omega)]
  rw [upd_pos (m := max (max (max 0 (0 + c)) (0 + 1 + a)) (0 + 1 + 1 + b)) (by omega)]
  rw [upd_pos (by omega)]
  rcases Int.le_total b a with h1 | h1 <;> rcases Int.le_total c b with h2 | h2 <;> rcases Int.le_total c a with h3 | h3
  · rw [plL_three (srt_eq (s := [a, b, c]) (List.Perm.refl _) (by simp; omega))]
    exact six_min (by omega) (by omega) (by omega) (by omega) (by omega) (by omega) (.inl (by omega))
  · rw [plL_three (srt_eq (s := [a, b, c]) (List.Perm.refl _) (by simp; omega))]
    exact six_min (by omega) (by omega) (by omega) (by omega) (by omega) (by omega) (.inl (by omega))
  · rw [plL_three (srt_eq (s := [a, c, b]) ((List.Perm.swap b c []).cons a) (by simp; omega))]
    exact six_min (by omega) (by omega) (by omega) (by omega) (by omega) (by omega) (.inr (.inl (by omega)))
  · rw [plL_three (srt_eq (s := [c, a, b]) ((List.Perm.swap a c [b]).trans ((List.Perm.swap b c []).cons a)) (by simp; omega))]
    exact six_min (by omega) (by omega) (by omega) (by omega) (by omega) (by omega) (.inr (.inr (.inr (.inr (.inl (by omega))))))
  · rw [plL_three (srt_eq (s := [b, a, c]) (List.Perm.swap a b [c]) (by simp; omega))]
    exact six_min (by omega) (by omega) (by omega) (by omega) (by omega) (by omega) (.inr (.inr (.inl (by omega))))
  · rw [plL_three (srt_eq (s := [b, c, a]) (((List.Perm.swap a c []).cons b).trans (List.Perm.swap a b [c])) (by simp; omega))]
    exact six_min (by omega) (by omega) (by omega) (by omega) (by omega) (by omega) (.inr (.inr (.inr (.inl (by omega)))))
  · rw [plL_three (srt_eq (s := [c, b, a]) ((List.Perm.swap b c [a]).trans (((List.Perm.swap a c []).cons b).trans (List.Perm.swap a b [c]))) (by simp; omega))]
    exact six_min (by omega) (by omega) (by omega) (by omega) (by omega) (by omega) (.inr (.inr (.inr (.inr (.inr (by omega))))))
  · rw [plL_three (srt_eq (s := [c, b, a]) ((List.Perm.swap b c [a]).trans (((List.Perm.swap a c []).cons b).trans (List.Perm.swap a b [c]))) (by simp; omega))]
    exact six_min (by omega) (by omega) (by omega) (by omega) (by omega) (by omega) (.inr (.inr (.inr (.inr (.inr (by omega))))))
theorem stL_eq {l : List Int} (h : l.length ≤ 3) (h1 : ∀ x ∈ l, 1 ≤ x) : stL l = plL l := by
  match l, h with
  | [], _ => simp [stL, plL, srt, plG]
  | [a], _ => exact stL_one (h1 a (by simp))
  | [a, b], _ => exact stL_two (h1 a (by simp)) (h1 b (by simp))
  | [a, b, c], _ => exact stL_three (h1 a (by simp)) (h1 b (by simp)) (h1 c (by simp))
  | _ :: _ :: _ :: _ :: _, h => simp at h

theorem sum_nonneg : ∀ l : List Int, (∀ x ∈ l, 0 ≤ x) → 0 ≤ l.sum
  | [], _ => by simp
  | x :: r, h => by
    have h1 := h x (by simp)
    have h2 := sum_nonneg r fun y hy => h y (by simp [hy])
    rw [List.sum_cons]; omega
theorem perm_sum {l m : List Int} (h : l.Perm m) : l.sum = m.sum := by
  induction h with
  | nil => rfl
  | cons x _ ih => rw [List.sum_cons, List.sum_cons, ih]
  | swap x y l => simp only [List.sum_cons]; omega
  | trans _ _ h1 h2 => exact h1.trans h2
theorem mem_le_sum : ∀ l : List Int, (∀ x ∈ l, 1 ≤ x) → ∀ x ∈ l, x ≤ l.sum
  | y :: r, h, x, hx => by
    have h1 := h y (by simp)
    have h0 := sum_nonneg r fun z hz => by have := h z (by simp [hz]); omega
    rw [List.sum_cons]
    rcases List.mem_cons.1 hx with rfl | hx
    · omega
    · have := mem_le_sum r (fun z hz => h z (by simp [hz])) x hx; omega
theorem plG_ge : ∀ (l : List Int) (k m : Int), m ≤ plG k l m
  | [], _, _ => Int.le_refl _
  | x :: r, k, m => by have := plG_ge r (k + 1) (max m (k + x)); unfold plG; omega
theorem plL_pos (l : List Int) : 1 ≤ plL l := plG_ge _ _ _
theorem plG_le : ∀ (l : List Int) (k m : Int), 0 ≤ k → (∀ x ∈ l, 1 ≤ x) → plG k l m ≤ max m (k + l.sum)
  | [], _, _, _, _ => by unfold plG; omega
  | x :: r, k, m, hk, h => by
    have h1 := plG_le r (k + 1) (max m (k + x)) (by omega) (fun y hy => h y (by simp [hy]))
    have h2 := h x (by simp)
    have h3 : 0 ≤ r.sum := sum_nonneg r fun y hy => by have := h y (by simp [hy]); omega
    unfold plG; rw [List.sum_cons]; omega
theorem plL_le {l : List Int} (h : ∀ x ∈ l, 1 ≤ x) : plL l ≤ max 1 l.sum := by
  have h1 := plG_le (srt l) 0 1 (by omega) (fun x hx => h x ((srt_perm l).mem_iff.1 hx))
  rw [perm_sum (srt_perm l)] at h1
  unfold plL; omega
theorem plF_pos : ∀ (f : F), ∀ x ∈ plF f, 1 ≤ x
  | .nil, x, hx => by simp [plF] at hx
  | .cons _ _ _ a r, x, hx => by
    rcases List.mem_cons.1 hx with rfl | hx
    · exact plL_pos _
    · exact plF_pos r x hx
theorem plF_sum : ∀ (f : F), (plF f).sum ≤ f.size
  | .nil => by simp [plF, F.size]
  | .cons _ _ _ a r => by
    have h1 := plL_le (plF_pos a)
    have h2 := plF_sum a
    have h3 := plF_sum r
    simp only [plF, List.sum_cons, F.size]; omega
theorem plF_le (f : F) : ∀ x ∈ plF f, x ≤ f.size := fun x hx => by
  have h1 := plF_sum f
  have h2 : x ≤ (plF f).sum := mem_le_sum (plF f) (plF_pos f) x hx
  omega
theorem stF_eq : ∀ (f : F), f.Small → stF f = plF f
  | .nil, _ => rfl
  | .cons op n s a r, ⟨⟨h1, _, h3⟩, ha, hr⟩ => by
    have hl : a.len ≤ 3 := by
      have : ar op ≤ 3 := by unfold ar; (repeat' split) <;> omega
      omega
    rw [stF, plF, stF_eq a ha, stF_eq r hr, stL_eq (by rw [plF_length]; exact hl) (plF_pos a)]
end Go.Proofs.YtckbhlnncokigaaGreat
