/- Texts joined: QFault. -/
import Derived.Test.YtkgciohebloffaaGreatJS07
/- exprFault: the reference's error of an expression. -/
namespace Go.Proofs.YtkgciohebloffaaGreat
open Go.RowKit

set_option maxRecDepth 100000 in
set_option maxHeartbeats 4000000 in
theorem q_fault_one (m : Nat) (ih : ∀ (op n : Int) (s : ByteArray) (a : F) (p : Option Addr) (c : Nat) (fa : List Nat) (d : Int) (w : World), a.size < m → RdP w a p fa → a.len ≤ c → c ≤ 9223372036854775807 → (F.cons op n s a .nil).Fits → 0 ≤ d → d ≤ 21 →
      Calls Tryz.prog 53 #[.agg #[.int .i64 op, .int .i64 n, .string s, .slice p a.len c], .int .i64 d] w fun e w' => e = .returned (.int .i64 (errE op n s a d)) ∧ Below w.heap.size w w')
    (op n : Int) (s : ByteArray) (a : F) (p : Option Addr) (c : Nat) (fa : List Nat) (d : Int) (w : World) (ham : a.size ≤ m) (hp : RdP w a p fa) (hac : a.len ≤ c) (hc : c ≤ 9223372036854775807) (hfit : (F.cons op n s a .nil).Fits) (hd0 : 0 ≤ d) (hd1 : d ≤ 21) :
    Calls Tryz.prog 53 #[.agg #[.int .i64 op, .int .i64 n, .string s, .slice p a.len c], .int .i64 d] w fun e w' => e = .returned (.int .i64 (errE op n s a d)) ∧ Below w.heap.size w w' := by
  obtain ⟨⟨o1, o2⟩, ⟨n1, n2⟩, hs, hfa, _⟩ := hfit
  have HP := hid hp
  have IH := hid ih
  have HFA := hid hfa
  have HE : Hid (errE op n s a d = _) := hid (errE.eq_1 op n s a d)
  clear hp ih hfa
  by_cases h1 : 20 < d
  · go_enter Tryz.func53, Tryz.ntmps53
    go_wp2_with fail
    refine (q_arity op _ o1 o2).mono ?_
    rintro e w1 ⟨rfl, hb⟩
    have HB := hid hb
    clear hb
    go_wp2_with fail
    go_ret
    exact ⟨ret_int (by rw [HE.out, if_pos h1]), (q_alloc_below _ _).trans (HB.out.mono (by simp))⟩
  by_cases h2 : op < 1 ∨ 9 < op
  · have HA := hid (show ar op = -1 by rw [ar, if_pos h2])
    have H2 := hid h2
    clear h2
    go_enter Tryz.func53, Tryz.ntmps53
    go_wp2_with fail
    refine (q_arity op _ o1 o2).mono ?_
    rintro e w1 ⟨rfl, hb⟩
    rw [HA.out]
    have HB := hid hb
    clear hb
    go_wp2_with fail
    go_ret
    exact ⟨ret_int (by rw [HE.out, if_neg (by omega), if_pos H2.out]), (q_alloc_below _ _).trans (HB.out.mono (by simp))⟩
  obtain ⟨k1, k2⟩ : 1 ≤ op ∧ op ≤ 9 := by omega
  have HAR : 0 ≤ ar op ∧ ar op ≤ 3 := by unfold ar; (repeat' split) <;> omega
  obtain ⟨ar0, ar3⟩ := HAR
  by_cases hform : (a.len : Int) ≠ ar op ∨ (op ≠ 1 ∧ n ≠ 0) ∨ (op ≠ 2 ∧ s.size ≠ 0)
  · have HF := hid hform
    have hsz : s.size ≠ 0 → s.toList.isEmpty = false ∧ (!s.toList.isEmpty) = true := by
      intro h
      have : s.toList.isEmpty = false := by rw [ByteArray.toList_eq, List.isEmpty_eq_false_iff, ← List.length_pos_iff, size_data]; omega
      exact ⟨this, by rw [this]; rfl⟩
    have hcs : ((a.len : Int) != ar op) = true ∨ (((a.len : Int) != ar op) = false ∧ (op != 1) = true ∧ (n != 0) = true) ∨ (((a.len : Int) != ar op) = false ∧ (op != 1) = false ∧ (op != 2) = true ∧ s.size ≠ 0) ∨ (((a.len : Int) != ar op) = false ∧ (op != 1) = true ∧ (n != 0) = false ∧ (op != 2) = true ∧ s.size ≠ 0) := by
      by_cases g1 : (a.len : Int) = ar op
      · by_cases g2 : op = 1
        · right; right; left; exact ⟨by simpa using g1, by simpa using g2, by simp [g2], by omega⟩
        · by_cases g3 : n = 0
          · right; right; right; exact ⟨by simpa using g1, by simpa using g2, by simpa using g3, by simp; omega, by omega⟩
          · right; left; exact ⟨by simpa using g1, by simpa using g2, by simpa using g3⟩
      · left; simpa using g1
    clear hform
    rcases hcs with e1 | ⟨e1, e2, e3⟩ | ⟨e1, e2, e3, e4⟩ | ⟨e1, e2, e3, e4, e5⟩
    · clear hsz
      go_enter Tryz.func53, Tryz.ntmps53
      go_wp2_with fail
      refine (q_arity op _ o1 o2).mono ?_
      rintro e w1 ⟨rfl, hb⟩
      have hblk := (Ext.of_below (S := fun _ => False) hb).heap (heap_new w _) id
      obtain ⟨⟨q0, q1, q2, q3⟩, _⟩ := blk4 hblk
      have HB := hid hb
      clear hb
      go_wp2_with fail
      go_ret
      exact ⟨ret_int (by rw [HE.out, if_neg (by omega), if_neg (by omega), if_pos HF.out]), (q_alloc_below _ _).trans (HB.out.mono (by simp))⟩
    · clear hsz
      go_enter Tryz.func53, Tryz.ntmps53
      go_wp2_with fail
      refine (q_arity op _ o1 o2).mono ?_
      rintro e w1 ⟨rfl, hb⟩
      have hblk := (Ext.of_below (S := fun _ => False) hb).heap (heap_new w _) id
      obtain ⟨⟨q0, q1, q2, q3⟩, _⟩ := blk4 hblk
      have HB := hid hb
      clear hb
      go_wp2_with fail
      go_ret
      exact ⟨ret_int (by rw [HE.out, if_neg (by omega), if_neg (by omega), if_pos HF.out]), (q_alloc_below _ _).trans (HB.out.mono (by simp))⟩
    · obtain ⟨es, es'⟩ := hsz e4
      clear hsz e4
      go_enter Tryz.func53, Tryz.ntmps53
      go_wp2_with fail
      refine (q_arity op _ o1 o2).mono ?_
      rintro e w1 ⟨rfl, hb⟩
      have hblk := (Ext.of_below (S := fun _ => False) hb).heap (heap_new w _) id
      obtain ⟨⟨q0, q1, q2, q3⟩, _⟩ := blk4 hblk
      have HB := hid hb
      clear hb
      go_wp2_with fail
      go_ret
      exact ⟨ret_int (by rw [HE.out, if_neg (by omega), if_neg (by omega), if_pos HF.out]), (q_alloc_below _ _).trans (HB.out.mono (by simp))⟩
    · obtain ⟨es, es'⟩ := hsz e5
      clear hsz e5
      go_enter Tryz.func53, Tryz.ntmps53
      go_wp2_with fail
      refine (q_arity op _ o1 o2).mono ?_
      rintro e w1 ⟨rfl, hb⟩
      have hblk := (Ext.of_below (S := fun _ => False) hb).heap (heap_new w _) id
      obtain ⟨⟨q0, q1, q2, q3⟩, _⟩ := blk4 hblk
      have HB := hid hb
      clear hb
      go_wp2_with fail
      go_ret
      exact ⟨ret_int (by rw [HE.out, if_neg (by omega), if_neg (by omega), if_pos HF.out]), (q_alloc_below _ _).trans (HB.out.mono (by simp))⟩
  have HF := hid hform
  have hlen : (a.len : Int) = ar op := by omega
  have e0 : ((a.len : Int) != ar op) = false := by simpa using hlen
  have hcs : ((op != 1) = false ∧ (op != 2) = true ∧ (op == 2) = false ∧ (!s.toList.isEmpty) = false ∧ s.toList.isEmpty = true ∧ op = 1) ∨ ((op != 1) = true ∧ (n != 0) = false ∧ (op != 2) = false ∧ (op == 2) = true ∧ op = 2 ∧ n = 0) ∨ ((op != 1) = true ∧ (n != 0) = false ∧ (op != 2) = true ∧ (op == 2) = false ∧ (!s.toList.isEmpty) = false ∧ s.toList.isEmpty = true) := by
    have hse : s.size = 0 → s.toList.isEmpty = true := by
      intro h; rw [ByteArray.toList_eq, List.isEmpty_iff_length_eq_zero, size_data]; exact h
    by_cases g1 : op = 1
    · left; subst g1; have := hse (by omega); exact ⟨rfl, rfl, rfl, by rw [this]; rfl, this, rfl⟩
    · by_cases g2 : op = 2
      · right; left; subst g2; have h0 : n = 0 := by omega
        subst h0; exact ⟨rfl, rfl, rfl, rfl, rfl, rfl⟩
      · right; right; have h0 : n = 0 := by omega
        subst h0; have := hse (by omega); exact ⟨by simpa using g1, rfl, by simpa using g2, by simpa using g2, by rw [this]; rfl, this⟩
  clear hform hlen
  rcases hcs with ⟨e1, e2, e3, e4, e5, h6⟩ | ⟨e1, e2, e3, e4, h6, h7⟩ | ⟨e1, e2, e3, e4, e5, e6⟩
  · by_cases hn : 0 ≤ n ∧ n ≤ 999
    · have HN := hid (show decide ((0 : Int) ≤ n ∧ n ≤ 999) = true by simpa using hn)
      have HFIN : Hid (errE op n s a d = errF a (d + 1)) := hid (by rw [HE.out, if_neg (by omega), if_neg (by omega), if_neg HF.out, if_neg (by omega), if_neg (by omega)])
      clear hn h6
      go_enter Tryz.func53, Tryz.ntmps53
      go_wp2_with fail
      refine (q_arity op _ o1 o2).mono ?_
      rintro e w1 ⟨rfl, hb⟩
      have hblk := (Ext.of_below (S := fun _ => False) hb).heap (heap_new w _) id
      obtain ⟨⟨q0, q1, q2, q3⟩, _⟩ := blk4 hblk
      have hz1 : w.heap.size + 1 ≤ w1.heap.size := by have := hb.size; simpa using this
      have HB := hid ((q_alloc_below w _).trans (hb.mono (by simp)))
      clear hb hblk
      go_wp2_with fail
      refine (q_in_b _ _ _ true HN.out _).mono ?_
      rintro e w2 ⟨rfl, rfl⟩
      go_wp2_with fail
      go_loopw [62] (fun i wr => ∃ k : Nat, k ≤ a.len ∧ i = .int .i64 k ∧ errF a (d + 1) = errF (a.drop k) (d + 1) ∧ Below w.heap.size w wr) (fun i _ => a.len - (intOf i).toNat)
      case atStart => exact ⟨0, by omega, rfl, rfl, HB.out⟩
      case round =>
        obtain ⟨k, hk, rfl, herr, hbl⟩ := hrel
        have HR := hid herr
        have HBl := hid hbl
        have hzr : w.heap.size ≤ wr.heap.size := hbl.size
        have hpr : RdP wr a p fa := HP.out.ext (S := fun _ => False) (Ext.of_below hbl) (fun _ _ => id)
        clear herr hbl
        by_cases hlt : k < a.len
        · rcases hpr with ⟨h0, _⟩ | ⟨b, o, xa, fb, rfl, _, _, hcell, _, hx⟩
          · rw [h0] at hlt; simp [F.len] at hlt
          obtain ⟨op', n', s', a', p', c', fa', hdrop, x0, x1, x2, x3, hl', hc', hp', _⟩ := hx.at hlt
          have q0 := hcell _ _ x0
          have q1 := hcell _ _ x1
          have q2 := hcell _ _ x2
          have q3 := hcell _ _ x3
          simp only [← Nat.add_assoc, Nat.mul_comm 4 k] at q0 q1 q2 q3
          have hfit' : (F.cons op' n' s' a' .nil).Fits := by
            have := F.fits_drop k HFA.out; rw [hdrop] at this; exact ⟨this.1, this.2.1, this.2.2.1, this.2.2.2.1, trivial⟩
          have hsz' : a'.size < m := by
            have := F.size_split k a hdrop; omega
          have HD := hid hdrop
          have HP' := hid (And.intro hp' (And.intro hl' (And.intro hc' (And.intro hfit' hsz'))))
          clear hcell hx x0 x1 x2 x3 hp' hl' hc' hfit' hsz' hdrop
          go_wp2_with fail
          refine (IH.out op' n' s' a' p' c' fa' (d + 1) _ HP'.out.2.2.2.2 (HP'.out.1.ext (S := fun _ => False) ((Ext.refl _).alloc _) (fun _ _ => id)) HP'.out.2.1 HP'.out.2.2.1 HP'.out.2.2.2.1 (by omega) (by omega)).mono ?_
          rintro e w3 ⟨rfl, hb3⟩
          have HB3 := hid (HBl.out.trans ((q_alloc_below wr _).mono hzr |>.trans (hb3.mono (by simp; omega))))
          clear hb3
          have HEr : Hid (errF a (d + 1) = if errE op' n' s' a' (d + 1) = 0 then errF (a.drop (k + 1)) (d + 1) else errE op' n' s' a' (d + 1)) := hid (by rw [HR.out, HD.out, errF_cons])
          generalize errE op' n' s' a' (d + 1) = er at *
          by_cases hz : er = 0
          · subst hz
            go_wp2_with fail
            go_roundw
            case rel => exact ⟨k + 1, by omega, by go_num, by rw [HEr.out]; simp, HB3.out⟩
            case measure => simp [intOf]; omega
          · have hz' : (er != 0) = true := by simpa using hz
            go_wp2_with fail
            go_ret
            exact ⟨ret_int (by rw [HFIN.out, HEr.out, if_neg hz]), HB3.out⟩
        · go_wp2_with fail
          go_ret
          exact ⟨ret_int (by rw [HFIN.out, HR.out, F.eq_nil_of_len (f := a.drop k) (by rw [F.len_drop]; omega)]; rfl), HBl.out⟩
    · have HN := hid (show decide ((0 : Int) ≤ n ∧ n ≤ 999) = false by simpa using hn)
      have HFIN : Hid (errE op n s a d = 1) := hid (by rw [HE.out, if_neg (by omega), if_neg (by omega), if_neg HF.out, if_pos (by omega)])
      clear hn h6
      go_enter Tryz.func53, Tryz.ntmps53
      go_wp2_with fail
      refine (q_arity op _ o1 o2).mono ?_
      rintro e w1 ⟨rfl, hb⟩
      have hblk := (Ext.of_below (S := fun _ => False) hb).heap (heap_new w _) id
      obtain ⟨⟨q0, q1, q2, q3⟩, _⟩ := blk4 hblk
      have hz1 : w.heap.size + 1 ≤ w1.heap.size := by have := hb.size; simpa using this
      have HB := hid ((q_alloc_below w _).trans (hb.mono (by simp)))
      clear hb hblk
      go_wp2_with fail
      refine (q_in_b _ _ _ false HN.out _).mono ?_
      rintro e w2 ⟨rfl, rfl⟩
      go_wp2_with fail
      go_ret
      exact ⟨ret_int HFIN.out.symm, HB.out⟩
  · subst h7
    by_cases hn : nameB s.data.toList = true
    · have HN := hid hn
      have HFIN : Hid (errE op 0 s a d = errF a (d + 1)) := hid (by rw [HE.out, if_neg (by omega), if_neg (by omega), if_neg HF.out, if_neg (by omega), if_neg (by simp [hn])])
      clear hn h6
      go_enter Tryz.func53, Tryz.ntmps53
      go_wp2_with fail
      refine (q_arity op _ o1 o2).mono ?_
      rintro e w1 ⟨rfl, hb⟩
      have hblk := (Ext.of_below (S := fun _ => False) hb).heap (heap_new w _) id
      obtain ⟨⟨q0, q1, q2, q3⟩, _⟩ := blk4 hblk
      have hz1 : w.heap.size + 1 ≤ w1.heap.size := by have := hb.size; simpa using this
      have HB := hid ((q_alloc_below w _).trans (hb.mono (by simp)))
      clear hb hblk
      go_wp2_with fail
      refine (q_in_b _ _ _ true (by decide) _).mono ?_
      rintro e w2 ⟨rfl, rfl⟩
      go_wp2_with fail
      refine (q_Name s true HN.out _ (by omega)).mono ?_
      rintro e w2 ⟨rfl, hb2⟩
      have r3 := (Ext.of_below (S := fun _ => False) hb2).cell_some q3 id
      have HB2 := hid (HB.out.trans (hb2.mono (by omega)))
      clear hb2 q0 q1 q2 q3
      go_wp2_with fail
      go_loopw [62] (fun i wr => ∃ k : Nat, k ≤ a.len ∧ i = .int .i64 k ∧ errF a (d + 1) = errF (a.drop k) (d + 1) ∧ Below w.heap.size w wr) (fun i _ => a.len - (intOf i).toNat)
      case atStart => exact ⟨0, by omega, rfl, rfl, HB2.out⟩
      case round =>
        obtain ⟨k, hk, rfl, herr, hbl⟩ := hrel
        have HR := hid herr
        have HBl := hid hbl
        have hzr : w.heap.size ≤ wr.heap.size := hbl.size
        have hpr : RdP wr a p fa := HP.out.ext (S := fun _ => False) (Ext.of_below hbl) (fun _ _ => id)
        clear herr hbl
        by_cases hlt : k < a.len
        · rcases hpr with ⟨h0, _⟩ | ⟨b, o, xa, fb, rfl, _, _, hcell, _, hx⟩
          · rw [h0] at hlt; simp [F.len] at hlt
          obtain ⟨op', n', s', a', p', c', fa', hdrop, x0, x1, x2, x3, hl', hc', hp', _⟩ := hx.at hlt
          have q0 := hcell _ _ x0
          have q1 := hcell _ _ x1
          have q2 := hcell _ _ x2
          have q3 := hcell _ _ x3
          simp only [← Nat.add_assoc, Nat.mul_comm 4 k] at q0 q1 q2 q3
          have hfit' : (F.cons op' n' s' a' .nil).Fits := by
            have := F.fits_drop k HFA.out; rw [hdrop] at this; exact ⟨this.1, this.2.1, this.2.2.1, this.2.2.2.1, trivial⟩
          have hsz' : a'.size < m := by
            have := F.size_split k a hdrop; omega
          have HD := hid hdrop
          have HP' := hid (And.intro hp' (And.intro hl' (And.intro hc' (And.intro hfit' hsz'))))
          clear hcell hx x0 x1 x2 x3 hp' hl' hc' hfit' hsz' hdrop
          go_wp2_with fail
          refine (IH.out op' n' s' a' p' c' fa' (d + 1) _ HP'.out.2.2.2.2 (HP'.out.1.ext (S := fun _ => False) ((Ext.refl _).alloc _) (fun _ _ => id)) HP'.out.2.1 HP'.out.2.2.1 HP'.out.2.2.2.1 (by omega) (by omega)).mono ?_
          rintro e w3 ⟨rfl, hb3⟩
          have HB3 := hid (HBl.out.trans ((q_alloc_below wr _).mono hzr |>.trans (hb3.mono (by simp; omega))))
          clear hb3
          have HEr : Hid (errF a (d + 1) = if errE op' n' s' a' (d + 1) = 0 then errF (a.drop (k + 1)) (d + 1) else errE op' n' s' a' (d + 1)) := hid (by rw [HR.out, HD.out, errF_cons])
          generalize errE op' n' s' a' (d + 1) = er at *
          by_cases hz : er = 0
          · subst hz
            go_wp2_with fail
            go_roundw
            case rel => exact ⟨k + 1, by omega, by go_num, by rw [HEr.out]; simp, HB3.out⟩
            case measure => simp [intOf]; omega
          · have hz' : (er != 0) = true := by simpa using hz
            go_wp2_with fail
            go_ret
            exact ⟨ret_int (by rw [HFIN.out, HEr.out, if_neg hz]), HB3.out⟩
        · go_wp2_with fail
          go_ret
          exact ⟨ret_int (by rw [HFIN.out, HR.out, F.eq_nil_of_len (f := a.drop k) (by rw [F.len_drop]; omega)]; rfl), HBl.out⟩
    · have HN := hid (show nameB s.data.toList = false by simpa using hn)
      have HFIN : Hid (errE op 0 s a d = 5) := hid (by rw [HE.out, if_neg (by omega), if_neg (by omega), if_neg HF.out, if_neg (by omega), if_pos ⟨h6, by simpa using hn⟩])
      clear hn h6
      go_enter Tryz.func53, Tryz.ntmps53
      go_wp2_with fail
      refine (q_arity op _ o1 o2).mono ?_
      rintro e w1 ⟨rfl, hb⟩
      have hblk := (Ext.of_below (S := fun _ => False) hb).heap (heap_new w _) id
      obtain ⟨⟨q0, q1, q2, q3⟩, _⟩ := blk4 hblk
      have hz1 : w.heap.size + 1 ≤ w1.heap.size := by have := hb.size; simpa using this
      have HB := hid ((q_alloc_below w _).trans (hb.mono (by simp)))
      clear hb hblk
      go_wp2_with fail
      refine (q_in_b _ _ _ true (by decide) _).mono ?_
      rintro e w2 ⟨rfl, rfl⟩
      go_wp2_with fail
      refine (q_Name s false HN.out _ (by omega)).mono ?_
      rintro e w2 ⟨rfl, hb2⟩
      have HB2 := hid (HB.out.trans (hb2.mono (by omega)))
      clear hb2
      go_wp2_with fail
      go_ret
      exact ⟨ret_int HFIN.out.symm, HB2.out⟩
  · have hn0 : n = 0 := by simpa using e2
    subst hn0
    have HFIN : Hid (errE op 0 s a d = errF a (d + 1)) := hid (by rw [HE.out, if_neg (by omega), if_neg (by omega), if_neg HF.out, if_neg (by omega), if_neg (fun h => (show op ≠ 2 by simpa using e3) h.1)])
    go_enter Tryz.func53, Tryz.ntmps53
    go_wp2_with fail
    refine (q_arity op _ o1 o2).mono ?_
    rintro e w1 ⟨rfl, hb⟩
    have hblk := (Ext.of_below (S := fun _ => False) hb).heap (heap_new w _) id
    obtain ⟨⟨q0, q1, q2, q3⟩, _⟩ := blk4 hblk
    have hz1 : w.heap.size + 1 ≤ w1.heap.size := by have := hb.size; simpa using this
    have HB := hid ((q_alloc_below w _).trans (hb.mono (by simp)))
    clear hb hblk
    go_wp2_with fail
    refine (q_in_b _ _ _ true (by decide) _).mono ?_
    rintro e w2 ⟨rfl, rfl⟩
    go_wp2_with fail
    go_loopw [62] (fun i wr => ∃ k : Nat, k ≤ a.len ∧ i = .int .i64 k ∧ errF a (d + 1) = errF (a.drop k) (d + 1) ∧ Below w.heap.size w wr) (fun i _ => a.len - (intOf i).toNat)
    case atStart => exact ⟨0, by omega, rfl, rfl, HB.out⟩
    case round =>
      obtain ⟨k, hk, rfl, herr, hbl⟩ := hrel
      have HR := hid herr
      have HBl := hid hbl
      have hzr : w.heap.size ≤ wr.heap.size := hbl.size
      have hpr : RdP wr a p fa := HP.out.ext (S := fun _ => False) (Ext.of_below hbl) (fun _ _ => id)
      clear herr hbl
      by_cases hlt : k < a.len
      · rcases hpr with ⟨h0, _⟩ | ⟨b, o, xa, fb, rfl, _, _, hcell, _, hx⟩
        · rw [h0] at hlt; simp [F.len] at hlt
        obtain ⟨op', n', s', a', p', c', fa', hdrop, x0, x1, x2, x3, hl', hc', hp', _⟩ := hx.at hlt
        have q0 := hcell _ _ x0
        have q1 := hcell _ _ x1
        have q2 := hcell _ _ x2
        have q3 := hcell _ _ x3
        simp only [← Nat.add_assoc, Nat.mul_comm 4 k] at q0 q1 q2 q3
        have hfit' : (F.cons op' n' s' a' .nil).Fits := by
          have := F.fits_drop k HFA.out; rw [hdrop] at this; exact ⟨this.1, this.2.1, this.2.2.1, this.2.2.2.1, trivial⟩
        have hsz' : a'.size < m := by
          have := F.size_split k a hdrop; omega
        have HD := hid hdrop
        have HP' := hid (And.intro hp' (And.intro hl' (And.intro hc' (And.intro hfit' hsz'))))
        clear hcell hx x0 x1 x2 x3 hp' hl' hc' hfit' hsz' hdrop
        go_wp2_with fail
        refine (IH.out op' n' s' a' p' c' fa' (d + 1) _ HP'.out.2.2.2.2 (HP'.out.1.ext (S := fun _ => False) ((Ext.refl _).alloc _) (fun _ _ => id)) HP'.out.2.1 HP'.out.2.2.1 HP'.out.2.2.2.1 (by omega) (by omega)).mono ?_
        rintro e w3 ⟨rfl, hb3⟩
        have HB3 := hid (HBl.out.trans ((q_alloc_below wr _).mono hzr |>.trans (hb3.mono (by simp; omega))))
        clear hb3
        have HEr : Hid (errF a (d + 1) = if errE op' n' s' a' (d + 1) = 0 then errF (a.drop (k + 1)) (d + 1) else errE op' n' s' a' (d + 1)) := hid (by rw [HR.out, HD.out, errF_cons])
        generalize errE op' n' s' a' (d + 1) = er at *
        by_cases hz : er = 0
        · subst hz
          go_wp2_with fail
          go_roundw
          case rel => exact ⟨k + 1, by omega, by go_num, by rw [HEr.out]; simp, HB3.out⟩
          case measure => simp [intOf]; omega
        · have hz' : (er != 0) = true := by simpa using hz
          go_wp2_with fail
          go_ret
          exact ⟨ret_int (by rw [HFIN.out, HEr.out, if_neg hz]), HB3.out⟩
      · go_wp2_with fail
        go_ret
        exact ⟨ret_int (by rw [HFIN.out, HR.out, F.eq_nil_of_len (f := a.drop k) (by rw [F.len_drop]; omega)]; rfl), HBl.out⟩

theorem q_exprFault (m : Nat) : ∀ (op n : Int) (s : ByteArray) (a : F) (p : Option Addr) (c : Nat) (fa : List Nat) (d : Int) (w : World), a.size < m → RdP w a p fa → a.len ≤ c → c ≤ 9223372036854775807 → (F.cons op n s a .nil).Fits → 0 ≤ d → d ≤ 21 →
    Calls Tryz.prog 53 #[.agg #[.int .i64 op, .int .i64 n, .string s, .slice p a.len c], .int .i64 d] w fun e w' => e = .returned (.int .i64 (errE op n s a d)) ∧ Below w.heap.size w w' := by
  induction m with
  | zero => intro op n s a p c fa d w h; omega
  | succ m ih => intro op n s a p c fa d w h h1 h2 h3 h4 h5 h6; exact q_fault_one m ih op n s a p c fa d w (by omega) h1 h2 h3 h4 h5 h6

set_option maxHeartbeats 400000 in
/-- ExprFault, the reference's. -/
theorem q_ExprFault (op n : Int) (s : ByteArray) (a : F) (p : Option Addr) (c : Nat) (fa : List Nat) (w : World) (h1 : RdP w a p fa) (h2 : a.len ≤ c) (h3 : c ≤ 9223372036854775807) (h4 : (F.cons op n s a .nil).Fits) :
    Calls Tryz.prog 9 #[.agg #[.int .i64 op, .int .i64 n, .string s, .slice p a.len c]] w fun e w' => e = .returned (.int .i64 (errE op n s a 1)) ∧ Below w.heap.size w w' := by
  have H1 := hid h1
  have H4 := hid h4
  clear h1 h4
  go_enter Tryz.func9, Tryz.ntmps9
  go_wp2_with fail
  refine (q_exprFault (a.size + 1) op n s a p c fa 1 _ (by omega) (H1.out.ext (S := fun _ => False) ((Ext.refl _).alloc _) (fun _ _ => id)) h2 h3 H4.out (by omega) (by omega)).mono ?_
  rintro e w' ⟨rfl, hb⟩
  have HB := hid ((q_alloc_below w _).trans (hb.mono (by simp)))
  clear hb
  go_wp2_with fail
  go_ret
  exact ⟨rfl, HB.out⟩
end Go.Proofs.YtkgciohebloffaaGreat
