/- Texts joined: VChk, Back. -/
import Derived.Test.YtkgciohebloffaaGreatJS15
import Derived.Test.YtkgciohebloffaaGreatJS21
import Derived.Test.YtkgciohebloffaaGreatJS12
import Derived.Test.YtkgciohebloffaaGreatJS19
import Derived.Deep.RegionHeld3
import Derived.Test.YtkgciohebloffaaGreatJS14
import Derived.Test.YtkgciohebloffaaGreatJS17
import Derived.Deep.RegionLaw
/- checkWord and checkCode, the program's. -/
namespace Go.Proofs.YtkgciohebloffaaGreat
open Go.RowKit

/-- Numbers 0 in a row. -/
def zeroF : Nat → F
  | 0 => .nil
  | k + 1 => .cons 1 0 ⟨#[]⟩ .nil (zeroF k)
theorem zeroF_len : ∀ k, (zeroF k).len = k
  | 0 => rfl
  | k + 1 => by simp [zeroF, F.len, zeroF_len k]
theorem zeroF_fits : ∀ k, (zeroF k).Fits
  | 0 => trivial
  | k + 1 => ⟨by omega, by omega, by decide, trivial, zeroF_fits k⟩
theorem zeroF_err : ∀ k, errF (zeroF k) 2 = 0
  | 0 => rfl
  | k + 1 => by
    have h : errE 1 0 ⟨#[]⟩ .nil 2 = 0 := rfl
    rw [zeroF, errF_cons, if_pos h]; exact zeroF_err k
def zeroV : Nat → List Value
  | 0 => []
  | k + 1 => .int .i64 1 :: .int .i64 0 :: .string ⟨#[]⟩ :: .slice none 0 0 :: zeroV k
theorem zeroF_rd (w : World) : ∀ k, RdV w (zeroF k) (zeroV k) []
  | 0 => ⟨rfl, rfl⟩
  | k + 1 => ⟨none, 0, [], [], _, rfl, rfl, Nat.le_refl _, by omega, zeroF_rd w k, .inl ⟨rfl, rfl⟩⟩
theorem zeroV_take : ∀ (k n : Nat), k ≤ n → ∀ (i : Nat) (v : Value), (zeroV k)[i]? = some v → (zeroV n)[i]? = some v
  | 0, _, _, i, v, h => by simp [zeroV] at h
  | k + 1, n + 1, hk, i, v, h => by
    match i with
    | 0 => exact h
    | 1 => exact h
    | 2 => exact h
    | 3 => exact h
    | i + 4 => exact zeroV_take k n (by omega) i v (by simpa [zeroV] using h)
theorem zeroF_at {w : World} {b : Nat} {T : TypeId} (k : Nat) (hk : k ≤ 3) (h : w.heap[b]? = some (.cells (zeroV 3).toArray T (0, 0))) : ∃ fa, RdP w (zeroF k) (some ⟨b, 0, none⟩) fa := by
  by_cases h0 : k = 0
  · subst h0; exact ⟨[], .inl ⟨rfl, rfl⟩⟩
  · refine ⟨[b], .inr ⟨b, 0, zeroV k, [], rfl, rfl, by rw [zeroF_len]; omega, ?_, fun j => by simp [World.frozen?, h], zeroF_rd w k⟩⟩
    intro i v hv
    rw [Nat.zero_add, cell_of_row _ _ _ _ _ _ h, ← Array.getElem?_toList]
    exact zeroV_take k 3 hk i v hv
theorem opn_opsN (op : Int) : opn op = opsN op := by
  unfold opn opsN
  by_cases h1 : op = 1
  · subst h1; rfl
  by_cases h2 : op = 2
  · subst h2; rfl
  by_cases h8 : op = 8
  · subst h8; rfl
  by_cases h9 : op = 9
  · subst h9; rfl
  · simp [h1, h2, h8, h9]
theorem word_err (op n : Int) (s : ByteArray) (k : Nat) (hk : (k : Int) = opn op) : errE op n s (zeroF k) 1 = wErr (op, n, s) := by
  have hs : (s.size ≠ 0) ↔ s.toList.isEmpty = false := by
    rw [ByteArray.toList_eq, List.isEmpty_eq_false_iff, ← List.length_pos_iff, size_data]; omega
  by_cases h1 : op < 1 ∨ 9 < op
  · have l : errE op n s (zeroF k) 1 = 4 := by rw [errE, if_neg (by omega), if_pos h1]
    have r : wErr (op, n, s) = 4 := by rw [wErr, if_pos (by simp; omega)]
    rw [l, r]
  have ha : ((zeroF k).len : Int) = ar op := by rw [zeroF_len, hk]; exact opn_ar (by omega)
  have g1 : ¬ decide (1 ≤ op ∧ op ≤ 9) = false := by simp; omega
  have hb : (((n != 0) && (op != 1) || (!s.toList.isEmpty) && (op != 2)) = true) ↔ ((op ≠ 1 ∧ n ≠ 0) ∨ (op ≠ 2 ∧ s.size ≠ 0)) := by
    rw [hs]
    by_cases a1 : n = 0 <;> by_cases a2 : op = 1 <;> by_cases a3 : op = 2 <;> cases a4 : s.toList.isEmpty <;> simp [a1, a2, a3]
  by_cases h2 : (op ≠ 1 ∧ n ≠ 0) ∨ (op ≠ 2 ∧ s.size ≠ 0)
  · have l : errE op n s (zeroF k) 1 = 3 := by rw [errE, if_neg (by omega), if_neg h1, if_pos (.inr h2)]
    have r : wErr (op, n, s) = 3 := by rw [wErr, if_neg g1, if_pos (hb.2 h2)]
    rw [l, r]
  have g2 : ¬ ((zeroF k).len : Int) ≠ ar op := fun h => h ha
  by_cases h3 : n < 0 ∨ 999 < n
  · have l : errE op n s (zeroF k) 1 = 1 := by rw [errE, if_neg (by omega), if_neg h1, if_neg (fun h => h.elim g2 h2), if_pos h3]
    have r : wErr (op, n, s) = 1 := by rw [wErr, if_neg g1, if_neg (fun h => h2 (hb.1 h)), if_pos (by simp; omega)]
    rw [l, r]
  have g3 : ¬ decide (0 ≤ n ∧ n ≤ 999) = false := by simp; omega
  by_cases h4 : op = 2 ∧ nameB s.data.toList = false
  · have l : errE op n s (zeroF k) 1 = 5 := by rw [errE, if_neg (by omega), if_neg h1, if_neg (fun h => h.elim g2 h2), if_neg h3, if_pos h4]
    have r : wErr (op, n, s) = 5 := by rw [wErr, if_neg g1, if_neg (fun h => h2 (hb.1 h)), if_neg g3, if_pos (by simp [h4.1, h4.2])]
    rw [l, r]
  · have l : errE op n s (zeroF k) 1 = 0 := by rw [errE, if_neg (by omega), if_neg h1, if_neg (fun h => h.elim g2 h2), if_neg h3, if_neg h4]; exact zeroF_err k
    have r : wErr (op, n, s) = 0 := by
      rw [wErr, if_neg g1, if_neg (fun h => h2 (hb.1 h)), if_neg g3, if_neg]
      intro h
      simp only [Bool.and_eq_true, beq_iff_eq, Bool.not_eq_true'] at h
      exact h4 h
    rw [l, r]

set_option maxHeartbeats 400000 in
theorem v_number (n : Int) (w : World) : Calls Tryz.prog 191 #[.int .i64 n] w fun e w' => e = .returned (.agg #[.int .i64 1, .int .i64 n, .string ⟨#[]⟩, .slice none 0 0]) ∧ Below w.heap.size w w' := by
  go_enter Tryz.func191, Tryz.ntmps191
  go_wp2
  go_returns
  exact ⟨rfl, alloc_below _ _⟩

theorem p_operands_k (op : Int) (k : Nat) (h : (k : Int) = opn op) (w : World) : Calls Tryz.prog 152 #[.int .i64 op] w fun e w' => e = .returned (.int .i64 (k : Int)) ∧ w = w' := by rw [h]; exact p_operands op w
theorem p_chk (op n : Int) (s : ByteArray) (k : Nat) (hk : (k : Int) = opn op) (hk3 : k ≤ 3) (b : Nat) (T : TypeId) (w : World) (hok : WdOk (op, n, s)) (h : w.heap[b]? = some (.cells (zeroV 3).toArray T (0, 0))) :
    Calls Tryz.prog 56 #[.agg #[.int .i64 op, .int .i64 n, .string s, .slice (some ⟨b, 0, none⟩) k 3]] w fun e w' => e = .returned (.int .i64 (wErr (op, n, s))) ∧ Below w.heap.size w w' := by
  obtain ⟨fa, hr⟩ := zeroF_at k hk3 h
  have H := p_CheckExpr op n s (zeroF k) (some ⟨b, 0, none⟩) 3 fa w hr (by rw [zeroF_len]; exact hk3) (by omega) ⟨hok.1, hok.2.1, hok.2.2, zeroF_fits k, trivial⟩
  rw [zeroF_len, word_err op n s k hk] at H
  exact H

set_option maxRecDepth 100000 in
set_option maxHeartbeats 4000000 in
theorem v_checkWord (op n : Int) (s : ByteArray) (w : World) (hok : WdOk (op, n, s)) :
    Calls Tryz.prog 151 #[.agg #[.int .i64 op, .int .i64 n, .string s]] w fun e w' => e = .returned (.int .i64 (wErr (op, n, s))) ∧ Below w.heap.size w w' := by
  have HOK := hid hok
  clear hok
  have HN0 := hid (heap_new w (.cells #[.int .i64 op, .int .i64 n, .string s] 78))
  have HB0 := hid (alloc_below w (.cells #[.int .i64 op, .int .i64 n, .string s] 78))
  obtain ⟨k, hk, hk3⟩ : ∃ k : Nat, (k : Int) = opn op ∧ k ≤ 3 := ⟨(opn op).toNat, by unfold opn; (repeat' split) <;> simp, by unfold opn; (repeat' split) <;> simp⟩
  have HK := hid hk
  have hk3' : (k : Int) ≤ 3 := by omega
  clear hk
  go_enter Tryz.func151, Tryz.ntmps151
  go_wp2_with fail
  refine (v_number 0 _).mono ?_
  rintro e w1 ⟨rfl, hb1⟩
  have HN1 := hid ((Ext.of_below (S := fun _ => False) hb1).heap HN0.out id)
  have HB1 := hid (HB0.out.trans (hb1.mono (by simp)))
  clear hb1
  go_wp2_with fail
  refine (v_number 0 _).mono ?_
  rintro e w2 ⟨rfl, hb2⟩
  have HN2 := hid ((Ext.of_below (S := fun _ => False) hb2).heap HN1.out id)
  have HB2 := hid (HB1.out.trans (hb2.mono HB1.out.size))
  clear hb2
  go_wp2_with fail
  refine (v_number 0 _).mono ?_
  rintro e w3 ⟨rfl, hb3⟩
  have HN3 := hid ((Ext.of_below (S := fun _ => False) hb3).heap HN2.out id)
  have HB3 := hid (HB2.out.trans (hb3.mono HB2.out.size))
  clear hb3
  obtain ⟨⟨q0, q1, q2⟩, _⟩ := blk3 HN3.out
  have hk0 : (0 : Int) ≤ k := by omega
  have hkn : (k : Int).toNat = k := by omega
  have HZ := hid (show ((w3.alloc (.cells (zeroV 3).toArray 213)).drew).heap[w3.heap.size]? = some (.cells (zeroV 3).toArray 213 (0, 0)) from heap_new w3 _)
  have ED := hid (((Ext.refl (S := fun _ => False) w3).alloc (.cells (zeroV 3).toArray 213)).drew)
  have HQ := hid (And.intro q0 (And.intro q1 q2))
  go_wp2_with fail
  go_region_held3 (fun w' => w'.cell? ⟨w.heap.size, 0, none⟩ = some (.int .i64 op) ∧ w'.cell? ⟨w.heap.size, 1, none⟩ = some (.int .i64 n) ∧ w'.cell? ⟨w.heap.size, 2, none⟩ = some (.string s))
    (first
      | (with_reducible exact ⟨E5.out.cell_some HQ.out.1 id, E5.out.cell_some HQ.out.2.1 id, E5.out.cell_some HQ.out.2.2 id⟩)
      | exact ⟨ED.out.cell_some HQ.out.1 id, ED.out.cell_some HQ.out.2.1 id, ED.out.cell_some HQ.out.2.2 id⟩
      | (go_keep; done))
    (first
      | (go_at_call 152; refine (p_operands_k op k HK.out _).mono ?_; rintro e w4 ⟨rfl, rfl⟩)
      | (go_at_call 56; refine (p_chk op n s k HK.out hk3 _ _ _ HOK.out HZ.out).mono ?_; rintro e w5 ⟨rfl, hb5⟩; have E5 := hid (ED.out.trans (Ext.of_below hb5)); clear hb5))
  generalize hwe : wErr (op, n, s) = er
  have HW := hid hwe
  clear hwe
  all_goals
    go_wp2_with fail
    go_ret
    exact ⟨ret_int HW.out.symm, below_ext HB3.out E5.out HB3.out.size⟩

/-- checkCode's count: the values on the stack, checked behind each word. -/
theorem cErr_cons' (x : Int × Int × ByteArray) (r : List (Int × Int × ByteArray)) (h : Int) : cErr (x :: r) h = if wErr x ≠ 0 then wErr x else if h - opsN x.1 < 0 then 11 else cErr r (h - opsN x.1 + 1) := by
  rw [cErr]
  by_cases a : wErr x = 0
  · have g1 : ¬ (wErr x != 0) = true := by simp [a]
    have g2 : ¬ wErr x ≠ 0 := fun k => k a
    rw [if_neg g1]
    conv => rhs; rw [if_neg g2]
    by_cases b : h - opsN x.1 < 0
    · rw [if_pos (show decide (h < opsN x.1) = true by simp; omega), if_pos b]
    · rw [if_neg (show ¬ decide (h < opsN x.1) = true by simp; omega), if_neg b, show h + (1 - opsN x.1) = h - opsN x.1 + 1 by omega]
  · have g1 : (wErr x != 0) = true := by simpa using a
    rw [if_pos g1]
    conv => rhs; rw [if_pos a]

set_option maxRecDepth 100000 in
set_option maxHeartbeats 4000000 in
theorem v_checkCode (L : List (Int × Int × ByteArray)) (p : Option Addr) (c : Nat) (w : World) (hp : WdP w L p) (hl : L.length ≤ 2000) (_hlc : L.length ≤ c) (_hcm : c ≤ maxLen) (hok : ∀ x ∈ L, WdOk x) :
    Calls Tryz.prog 90 #[.slice p L.length c] w fun e w' => e = .returned (.int .i64 (cErr L 0)) ∧ Below w.heap.size w w' := by
  have HP := hid hp
  have HK := hid hok
  have hl' : (L.length : Int) ≤ 2000 := by omega
  clear hp hok
  go_enter Tryz.func90, Tryz.ntmps90
  go_wp2_with fail
  go_loopw [3, 12] (fun h i wr => ∃ (k j : Nat), k ≤ L.length ∧ i = .int .i64 k ∧ h = .int .i64 j ∧ j ≤ k ∧ cErr L 0 = cErr (L.drop k) j ∧ Below w.heap.size w wr) (fun _ i _ => L.length - (intOf i).toNat)
  case atStart => exact ⟨0, 0, by omega, rfl, rfl, by omega, rfl, Below.refl _ _⟩
  case round =>
    obtain ⟨k, j, hk, rfl, rfl, hjk, herr, hbl⟩ := hrel
    have HR := hid herr
    have HB := hid hbl
    have hzr : w.heap.size ≤ wr.heap.size := hbl.size
    clear herr hbl
    by_cases hlt : k < L.length
    · rcases HP.out with h0 | ⟨b, rfl, hat⟩
      · rw [h0] at hlt; simp at hlt
      have HA := hid (hat.ext (S := fun _ => False) (Ext.of_below HB.out) id)
      obtain ⟨c0, c1, c2⟩ := HA.out k _ (List.getElem?_eq_getElem hlt)
      have HD := hid (List.drop_eq_getElem_cons hlt)
      have HKx := hid (HK.out _ (List.getElem_mem hlt))
      generalize L[k] = x at c0 c1 c2 HD HKx
      obtain ⟨xo, xn, xs⟩ := x
      dsimp only at c0 c1 c2
      have HR2 := hid (show cErr L 0 = if wErr (xo, xn, xs) ≠ 0 then wErr (xo, xn, xs) else if (j : Int) - opsN xo < 0 then 11 else cErr (L.drop (k + 1)) ((j : Int) - opsN xo + 1) by rw [HR.out, HD.out, cErr_cons'])
      have HN1 := hid (heap_new wr (.cells #[.int .i64 xo, .int .i64 xn, .string xs] 78))
      clear HR
      go_wp2_with fail
      refine (v_checkWord xo xn xs _ HKx.out).mono ?_
      rintro e w2 ⟨rfl, hb2⟩
      have HN2 := hid ((Ext.of_below (S := fun _ => False) hb2).heap HN1.out id)
      have HB2 := hid ((HB.out.alloc hzr _).trans (hb2.mono (by simp; omega)))
      clear hb2
      generalize wErr (xo, xn, xs) = er at *
      by_cases he : er = 0
      case neg =>
        have hne : (er != 0) = true := by simpa using he
        have HE := hid he
        clear he
        go_wp2_with fail
        go_ret
        exact ⟨ret_int (by rw [HR2.out, if_pos HE.out]), HB2.out⟩
      subst he
      obtain ⟨⟨q0, q1, q2⟩, _⟩ := blk3 HN2.out
      go_wp2_with fail
      refine (p_operands xo _).mono ?_
      rintro e w3 ⟨rfl, rfl⟩
      have hr := opsN_range xo
      rw [opn_opsN]
      have HR3 := hid (show cErr L 0 = if (j : Int) - opsN xo < 0 then 11 else cErr (L.drop (k + 1)) ((j : Int) - opsN xo + 1) by rw [HR2.out, if_neg (by simp)])
      clear HR2
      generalize opsN xo = q at *
      by_cases hq : (j : Int) - q < 0
      · go_wp2_with fail
        go_ret
        exact ⟨ret_int (by rw [HR3.out, if_pos hq]), HB2.out⟩
      · have hq' : (0 : Int) ≤ (j : Int) - q := by omega
        have HR4 := hid (show cErr L 0 = cErr (L.drop (k + 1)) ((j : Int) - q + 1) by rw [HR3.out, if_neg hq])
        clear hq
        go_wp2_with fail
        go_roundw
        case rel => exact ⟨k + 1, ((j : Int) - q + 1).toNat, by omega, by go_num, by rw [Int.toNat_of_nonneg (by omega)], by omega, by rw [Int.toNat_of_nonneg (by omega)]; exact HR4.out, HB2.out⟩
        case measure => simp [intOf]; omega
    · have hfin : cErr L 0 = if ((j : Int) != 1) = true then 3 else 0 := by rw [HR.out, List.drop_eq_nil_of_le (by omega)]; rfl
      have HF := hid hfin
      clear hfin
      by_cases hj1 : (j : Int) = 1
      · have hj2 : ((j : Int) != 1) = false := by simpa using hj1
        have HJ := hid hj2
        go_wp2_with fail
        go_ret
        exact ⟨ret_int (by rw [HF.out, HJ.out]; rfl), HB.out⟩
      · have hj2 : ((j : Int) != 1) = true := by simpa using hj1
        have HJ := hid hj2
        clear hj1
        go_wp2_with fail
        go_ret
        exact ⟨ret_int (by rw [HF.out, HJ.out]; rfl), HB.out⟩
end Go.Proofs.YtkgciohebloffaaGreat
/- Back, the program's: the closure that makes an expression out of a word and its arguments. -/
namespace Go.Proofs.YtkgciohebloffaaGreat
open Go.RowKit

theorem RdV.one {w : World} : ∀ {f : F} {xs : List Value} {fp : List Nat}, RdV w f xs fp → ∀ u ∈ xs, u.oneCell' = true
  | .nil, _, _, ⟨rfl, _⟩, u, hu => by simp at hu
  | .cons _ _ _ _ r, _, _, ⟨_, _, _, _, xr, rfl, _, _, _, h, _⟩, u, hu => by
    simp only [List.mem_cons] at hu
    rcases hu with rfl | rfl | rfl | rfl | hu
    · rfl
    · rfl
    · rfl
    · rfl
    · exact RdV.one h u hu

/-- The new slice of arguments reads as they do. -/
theorem args_read {w w4 : World} {A : F} {xs : List Value} {fb : List Nat} {q : Option Addr} {c : Nat} (hx : RdV w4 A xs fb) (hown : 0 < A.len → w4.ownsRow w.heap.size 28 4 (.slice q A.len c) A.len xs) (h0 : A.len = 0 → xs = []) :
    ∃ fq, RdP w4 A q fq ∧ (∀ b ∈ fq, b ∈ fb ∨ w.heap.size ≤ b) := by
  rcases Nat.eq_zero_or_pos A.len with h | h
  · have : A = .nil := F.eq_nil_of_len h
    subst this
    exact ⟨[], .inl ⟨rfl, rfl⟩, by simp⟩
  · obtain ⟨g, cc, hv, hg, _, _, hcell, hfr⟩ := own_cells (hown h) h
    injection hv with e1 _ _
    subst e1
    refine ⟨g :: fb, .inr ⟨g, 0, xs, fb, rfl, rfl, h, fun i v hv => by rw [Nat.zero_add]; exact hcell i v hv, hfr, hx⟩, fun b hb => ?_⟩
    rcases List.mem_cons.1 hb with rfl | hb
    · exact .inr hg
    · exact .inl hb

def GotBack (op n : Int) (s : ByteArray) (A : F) (fb : List Nat) (w : World) (e : Ending) (w' : World) : Prop :=
  (∃ q cq fq, e = .returned (.agg #[.int .i64 op, .int .i64 n, .string s, .slice q A.len cq]) ∧ A.len ≤ cq ∧ cq ≤ 9223372036854775807 ∧ RdP w' A q fq ∧ (∀ b ∈ fq, b ∈ fb ∨ w.heap.size ≤ b)) ∧ Below w.heap.size w w'
set_option maxRecDepth 100000 in
set_option maxHeartbeats 4000000 in
theorem v_back1 (op n : Int) (s : ByteArray) (A : F) (p : Option Addr) (c : Nat) (xs : List Value) (fb : List Nat) (w : World) (hx : RdV w A xs fb) (hp : CellsP w p xs) (hl : A.len ≤ 3) :
    Calls Tryz.prog 92 #[.agg #[.int .i64 op, .int .i64 n, .string s], .slice p A.len c] w (GotBack op n s A fb w) := by
  obtain ⟨i0, hi0, hz0, hz1, hz2⟩ := info_parts info_expr
  have E1 := (Ext.refl (S := fun _ => False) w).alloc (.cells #[.int .i64 op, .int .i64 n, .string s] 78)
  have E2 := E1.alloc (.cells #[.int .i64 0, .int .i64 0, .string ⟨#[]⟩, .slice none 0 0] 28)
  have hB1 := heap_new w (.cells #[.int .i64 op, .int .i64 n, .string s] 78)
  have hB1' := ((Ext.refl (S := fun _ => False) _).alloc (.cells #[.int .i64 0, .int .i64 0, .string ⟨#[]⟩, .slice none 0 0] 28)).heap hB1 id
  have hB2 := heap_new (w.alloc (.cells #[.int .i64 op, .int .i64 n, .string s] 78)) (.cells #[.int .i64 0, .int .i64 0, .string ⟨#[]⟩, .slice none 0 0] 28)
  have hz : (w.alloc (.cells #[.int .i64 op, .int .i64 n, .string s] 78)).heap.size = w.heap.size + 1 := by simp
  rw [hz] at hB2
  have E3 := E2.drew
  have hB1d : (((w.alloc (.cells #[.int .i64 op, .int .i64 n, .string s] 78)).alloc (.cells #[.int .i64 0, .int .i64 0, .string ⟨#[]⟩, .slice none 0 0] 28)).drew).heap[w.heap.size]? = some (.cells #[.int .i64 op, .int .i64 n, .string s] 78 (0, 0)) := hB1'
  have hB2d : (((w.alloc (.cells #[.int .i64 op, .int .i64 n, .string s] 78)).alloc (.cells #[.int .i64 0, .int .i64 0, .string ⟨#[]⟩, .slice none 0 0] 28)).drew).heap[w.heap.size + 1]? = some (.cells #[.int .i64 0, .int .i64 0, .string ⟨#[]⟩, .slice none 0 0] 28 (0, 0)) := hB2
  obtain ⟨q, cq, w4, hr, hc4, hg4, hle, hcm, hcase⟩ := run_app_full (P := Tryz.prog) (((w.alloc (.cells #[.int .i64 op, .int .i64 n, .string s] 78)).alloc (.cells #[.int .i64 0, .int .i64 0, .string ⟨#[]⟩, .slice none 0 0] 28)).drew) 26 26 28 i0 _ 4 56 Tryz.underlying26 hi0 hz0 hz1 hz2 rfl (by decide) none 0 [] rfl (.inl rfl) p A.len c xs (by rw [hx.length]; omega) (hp.ext E3 (fun _ _ => id)) hx.one (by unfold maxLen; omega) (by omega)
  have E5 := (Ext.refl (S := fun _ => False) _).grown hg4 (fun _ h => by cases h)
  have E4 := hid (E3.trans E5)
  have HB1 := hid (E5.heap hB1d id)
  have HB2 := hid (E5.heap hB2d id)
  have hz4 : w.heap.size + 2 ≤ w4.heap.size := by have := E5.size; simpa using this
  have HX := hid (args_read (w := ((w.alloc (.cells #[.int .i64 op, .int .i64 n, .string s] 78)).alloc (.cells #[.int .i64 0, .int .i64 0, .string ⟨#[]⟩, .slice none 0 0] 28)).drew) (q := q) (c := cq) (hx.ext E4.out (fun _ _ => id)) (fun h => by
    rcases hcase with ⟨_, h'⟩ | ⟨h', _⟩
    · simpa using h'
    · omega) (fun h => List.eq_nil_of_length_eq_zero (by rw [hx.length, h])))
  rw [Nat.zero_add] at hr hle
  have HLT := hid hx.lt
  have HR := hid hr
  have HL := hid (And.intro hle hcm)
  obtain ⟨⟨c0, c1, c2⟩, _⟩ := blk3 HB1.out
  have HC := hid (And.intro c0 (And.intro c1 c2))
  clear hc4 hg4 hle hcm hcase hr hB1 hB1' hB2 hB1d hB2d E1 E2 E3 E5 hx hp hz c0 c1 c2
  obtain ⟨⟨p0, p1, p2, p3⟩, f0, f1, f2, f3⟩ := blk4 HB2.out
  go_enter Tryz.func92, Tryz.ntmps92
  go_wp2_with fail
  go_region_held3 (fun w' => w'.cell? ⟨w.heap.size, 0, none⟩ = some (.int .i64 op) ∧ w'.cell? ⟨w.heap.size, 1, none⟩ = some (.int .i64 n) ∧ w'.cell? ⟨w.heap.size, 2, none⟩ = some (.string s))
    (first
      | (with_reducible exact ⟨HC.out.1, HC.out.2.1, HC.out.2.2⟩)
      | (go_keep; done))
    (first
      | (refine step_app _ rfl _ _ 26 rfl _ _ _ _ rfl rfl HR.out ?_))
  go_wp2_with fail
  obtain ⟨u0, u1, u2, u3⟩ := set4 (a0 := .int .i64 op) (a1 := .int .i64 n) (a2 := .string s) (a3 := .slice q A.len cq) p0 p1 p2 p3
  have e4 : Ext (· = w.heap.size + 1) w4 ((((w4.setCell ⟨w.heap.size + 1, 0, none⟩ (.int .i64 op)).setCell ⟨w.heap.size + 1, 1, none⟩ (.int .i64 n)).setCell ⟨w.heap.size + 1, 2, none⟩ (.string s)).setCell ⟨w.heap.size + 1, 3, none⟩ (.slice q A.len cq)) :=
    set4_ext (S := (· = w.heap.size + 1)) (Ext.refl w4) (.inl rfl)
  have e5 : Ext (fun _ => False) w ((((w4.setCell ⟨w.heap.size + 1, 0, none⟩ (.int .i64 op)).setCell ⟨w.heap.size + 1, 1, none⟩ (.int .i64 n)).setCell ⟨w.heap.size + 1, 2, none⟩ (.string s)).setCell ⟨w.heap.size + 1, 3, none⟩ (.slice q A.len cq)) :=
    set4_ext E4.out (.inr (by omega))
  generalize ((((w4.setCell ⟨w.heap.size + 1, 0, none⟩ (.int .i64 op)).setCell ⟨w.heap.size + 1, 1, none⟩ (.int .i64 n)).setCell ⟨w.heap.size + 1, 2, none⟩ (.string s)).setCell ⟨w.heap.size + 1, 3, none⟩ (.slice q A.len cq)) = w5 at *
  obtain ⟨fq, hq1, hq2⟩ := HX.out
  refine bodyPost_ret (v := .agg #[.int .i64 op, .int .i64 n, .string s, .slice q A.len cq]) (by simp [results, Tryz.results92, go_sem, u0, u1, u2, u3]) rfl ⟨⟨q, cq, fq, rfl, HL.out.1, HL.out.2, hq1.ext e4 (fun b hb e => ?_), fun b hb => ?_⟩, (Ext.below e5 (Below.refl _ _) (fun _ _ => id))⟩
  · rcases hq2 b hb with h | h
    · have := HLT.out b h; omega
    · simp at h; omega
  · rcases hq2 b hb with h | h
    · exact .inl h
    · simp at h; exact .inr (by omega)
end Go.Proofs.YtkgciohebloffaaGreat
