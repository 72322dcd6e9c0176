/- Texts joined: VRngO1, VRngO2. -/
import Derived.Test.YtckbhlnncokigaaGreatJB11
/- rangeOf, operator 1. (Made by tools/gen/rng.py.) -/
namespace Go.Proofs.YtckbhlnncokigaaGreat
open Go.RowKit

set_option maxRecDepth 100000 in
set_option maxHeartbeats 8000000 in
theorem v_rng1 (m : Nat) (L : List (ByteArray × Int × Int)) (lp : Option Addr) (lc lb : Nat) (ih : ∀ (op n : Int) (s : ByteArray) (a : F) (p : Option Addr) (c : Nat) (fa : List Nat) (w : World), a.size < m → RdP w a p fa → a.len ≤ c → c ≤ 9223372036854775807 → (F.cons op n s a .nil).Fits → (F.cons op n s a .nil).Small → Asks w lb L lp lc →
      Calls Tryz.prog 80 #[.agg #[.int .i64 op, .int .i64 n, .string s, .slice p a.len c], .func (.func 142) #[] #[.pointer (some ⟨lb, 0, none⟩)]] w fun e w' => e = .returned (.agg #[.int .i64 (bndE L op n s a).1, .int .i64 (bndE L op n s a).2]) ∧ Below w.heap.size w w')
    (op n : Int) (s : ByteArray) (a : F) (p : Option Addr) (c : Nat) (fa : List Nat) (w : World) (ham : a.size ≤ m) (hp : RdP w a p fa) (hac : a.len ≤ c) (hc : c ≤ 9223372036854775807) (hfit : (F.cons op n s a .nil).Fits) (hsm : (F.cons op n s a .nil).Small) (hl : Asks w lb L lp lc) (hg : SpGood L) (ho : Hid (op = 1)) :
    Calls Tryz.prog 80 #[.agg #[.int .i64 op, .int .i64 n, .string s, .slice p a.len c], .func (.func 142) #[] #[.pointer (some ⟨lb, 0, none⟩)]] w fun e w' => e = .returned (.agg #[.int .i64 (bndE L op n s a).1, .int .i64 (bndE L op n s a).2]) ∧ Below w.heap.size w w' := by
  obtain ⟨⟨o1, o2⟩, ⟨n1, n2⟩, hs, hfa, _⟩ := hfit
  obtain ⟨⟨⟨_, k2⟩, ⟨k3, k4⟩, k5⟩, hsa, _⟩ := hsm
  have HP := hid hp
  have HL := hid hl
  have IH := hid ih
  have HFA := hid hfa
  have HSA := hid hsa
  have HK := hid k5
  have HR0 := hid (VBRel.start L op n s a p c w)
  have hal : (a.len : Int) ≤ 9223372036854775807 := by omega
  have hl0 := HL
  have hin : Hid (∀ b ∈ bndF L a, In999 b) := hid (bnd_in hg a hsa)
  have ha3 : a.len ≤ 3 := by have := k5; unfold ar at this; (repeat' split at this) <;> omega
  clear hp hl ih hfa hsa k5
  go_enter Tryz.func80, Tryz.ntmps80
  go_wp2_with fail
  go_loopw [14] (fun i wr => ∃ (k : Nat), k ≤ a.len ∧ i = .int .i64 k ∧ VBRel L op n s a p c w k wr) (fun i _ => a.len - (intOf i).toNat)
  case atStart => exact ⟨0, by omega, rfl, HR0.out⟩
  case round =>
    obtain ⟨k, hk, rfl, hrel2⟩ := hrel
    have HREL := hid hrel2
    obtain ⟨_, _, _, _, hE, hR, _, hbl, hz⟩ := hrel2
    have HEb := hid hE
    have HRb := hid hR
    have HB := hid hbl
    obtain ⟨⟨q0, q1, q2, q3⟩, f0, f1, f2, f3⟩ := blk4 hE
    obtain ⟨⟨u0, u1⟩, g0, g1⟩ := blk2 hR
    have hpr : RdP wr a p fa := HP.out.ext (S := fun _ => False) (Ext.of_below hbl) (fun _ _ => id)
    clear hE hR hbl
    by_cases hlt : k < a.len
    · rcases hpr with ⟨h0, _⟩ | ⟨b, o, xa, fb, rfl, _, _, hcell, _, hx⟩
      · rw [h0] at hlt; simp [F.len] at hlt
      obtain ⟨op', n', s', a', p', c', fa', hdrop, x0, x1, x2, x3, hl', hc', hp', _⟩ := hx.at hlt
      have y0 := hcell _ _ x0
      have y1 := hcell _ _ x1
      have y2 := hcell _ _ x2
      have y3 := hcell _ _ x3
      simp only [← Nat.add_assoc, Nat.mul_comm 4 k] at y0 y1 y2 y3
      have hfit' : (F.cons op' n' s' a' .nil).Fits := by
        have := F.fits_drop k HFA.out; rw [hdrop] at this; exact ⟨this.1, this.2.1, this.2.2.1, this.2.2.2.1, trivial⟩
      have hsm' : (F.cons op' n' s' a' .nil).Small := by
        have := F.small_drop k HSA.out; rw [hdrop] at this; exact ⟨this.1, this.2.1, trivial⟩
      have hsz' : a'.size < m := by
        have := F.size_split k a hdrop; omega
      have HG := hid (show (bndF L a).getD k (0, 0) = bndE L op' n' s' a' from bndF_getD L a k hdrop)
      have HP' := hid (And.intro hp' (And.intro hl' (And.intro hc' (And.intro hfit' (And.intro hsm' hsz')))))
      have HLw := hid (hl0.out.ext (Ext.of_below HB.out))
      clear hcell hx x0 x1 x2 x3 hp' hl' hc' hfit' hsm' hsz' hdrop
      go_wp2_with fail
      refine (IH.out op' n' s' a' p' c' fa' _ HP'.out.2.2.2.2.2 (HP'.out.1.ext (S := fun _ => False) ((Ext.refl _).alloc _) (fun _ _ => id)) HP'.out.2.1 HP'.out.2.2.1 HP'.out.2.2.2.1 HP'.out.2.2.2.2.1 (HLw.out.ext ((Ext.refl _).alloc _))).mono ?_
      rintro e w3 ⟨rfl, hb3⟩
      have E3 := hid (((Ext.refl (S := fun _ => False) wr).alloc (.cells #[.int .i64 op', .int .i64 n', .string s', .slice p' a'.len c'] 28)).trans (Ext.of_below hb3))
      clear hb3
      obtain ⟨z, ⟨c0, c1⟩, ⟨d0, d1⟩, _⟩ := HREL.out.cells k (by omega)
      have hlw : w.heap.size + 2 < wr.heap.size := World.block_lt_of_cell? _ _ c0
      have c0' := E3.out.cell_some c0 id
      have c1' := E3.out.cell_some c1 id
      have d0' := (E3.out.frozen (p := ⟨w.heap.size + 2, k * 2, none⟩) hlw id).trans d0
      have d1' := (E3.out.frozen (p := ⟨w.heap.size + 2, k * 2 + 1, none⟩) hlw id).trans d1
      clear c0 c1 d0 d1 q0 q1 q2 q3 f0 f1 f2 f3 u0 u1 g0 g1
      have hk3 : (k : Int) < 3 := by omega
      generalize bndE L op' n' s' a' = bb at *
      obtain ⟨b1, b2⟩ := bb
      go_wp2_with fail
      have HN := hid (HREL.out.next E3.out (by omega) HG.out)
      go_roundw
      case rel => exact ⟨k + 1, by omega, by go_num, HN.out⟩
      case measure => simp [intOf]; omega
    · have hka : k = a.len := by omega
      clear hpr
      subst hka
      obtain rfl := ho.out
      obtain ⟨⟨x1, x2⟩, ⟨c0, c1⟩, _, hx, hx'⟩ := HREL.out.cells 0 (by omega)
      obtain ⟨⟨y1, y2⟩, ⟨c2, c3⟩, _, hy, hy'⟩ := HREL.out.cells 1 (by omega)
      obtain ⟨⟨z1, z2⟩, ⟨c4, c5⟩, _, hz1, hz1'⟩ := HREL.out.cells 2 (by omega)
      simp only [Nat.zero_mul, Nat.one_mul, Nat.zero_add, Nat.reduceMul, Nat.reduceAdd] at c0 c1 c2 c3 c4 c5
      have hla : a.len = 0 := by have := HK.out; simp [ar] at this; omega
      have hbl := bndF_length L a
      have HE : Hid (bndE L 1 n s a = _) := hid (by rw [bndE, if_pos rfl])
      have hw1 : IntKind.i64.wrap 1 = 1 := rfl
      have hgl : w.heap.size + 2 < wr.heap.size := World.block_lt_of_cell? _ _ c0
      have hgl2 : w.heap.size + 2 < wr.heap.size + 1 := by omega
      clear hin hx hx' hy hy' hz1 hz1' hbl hla HREL
      go_wp2_with fail
      go_region
      all_goals
        generalize hw6 : World.drew _ = w6
        obtain ⟨n0, n1, E6⟩ := two_new hw6
        have hz6 : w.heap.size + 3 ≤ w6.heap.size := Nat.le_trans hz E6.size
        have HB6 := hid (below_ext HB.out E6 (by omega))
        have HR6 := hid (E6.heap HRb.out id)
        have m0 := E6.cell_some q0 id
        have m1 := E6.cell_some q1 id
        have m2 := E6.cell_some q2 id
        have e4 := E6.cell_some c4 id
        have e5 := E6.cell_some c5 id
        have HL6 := hid ((hl0.out.ext (Ext.of_below HB.out)).ext E6)
        obtain ⟨⟨a0, a1⟩, _, _⟩ := blk2 n0
        obtain ⟨⟨b0, b1⟩, _, _⟩ := blk2 n1
        obtain ⟨⟨r0, r1⟩, t0, t1⟩ := blk2 HR6.out
        clear hw6 n0 n1 E6 q0 q1 q2 q3 f0 f1 f2 f3 u0 u1 g0 g1 c0 c1 c2 c3 c4 c5
        go_wp2_with fail
        refine (v_just _ _).mono ?_
        rintro e w5 ⟨rfl, hb5⟩
        obtain ⟨⟨r0', r1'⟩, t0', t1'⟩ := blk2 ((Ext.of_below (S := fun _ => False) hb5).heap HR6.out id)
        have HB5 := hid (below_ext HB6.out (Ext.of_below hb5) (by omega))
        clear hb5 r0 r1 t0 t1

        go_wp2_with fail
        refine bodyPost_ret (v := .agg #[.int .i64 (n, n).1, .int .i64 (n, n).2]) (by simp [results, Tryz.results80, go_sem, r0', r1']) rfl ⟨by rw [HE.out], below_set2 HB5.out (by omega) _ _⟩
end Go.Proofs.YtckbhlnncokigaaGreat
/- rangeOf, operator 2. (Made by tools/gen/rng.py.) -/
namespace Go.Proofs.YtckbhlnncokigaaGreat
open Go.RowKit

set_option maxRecDepth 100000 in
set_option maxHeartbeats 8000000 in
theorem v_rng2 (m : Nat) (L : List (ByteArray × Int × Int)) (lp : Option Addr) (lc lb : Nat) (ih : ∀ (op n : Int) (s : ByteArray) (a : F) (p : Option Addr) (c : Nat) (fa : List Nat) (w : World), a.size < m → RdP w a p fa → a.len ≤ c → c ≤ 9223372036854775807 → (F.cons op n s a .nil).Fits → (F.cons op n s a .nil).Small → Asks w lb L lp lc →
      Calls Tryz.prog 80 #[.agg #[.int .i64 op, .int .i64 n, .string s, .slice p a.len c], .func (.func 142) #[] #[.pointer (some ⟨lb, 0, none⟩)]] w fun e w' => e = .returned (.agg #[.int .i64 (bndE L op n s a).1, .int .i64 (bndE L op n s a).2]) ∧ Below w.heap.size w w')
    (op n : Int) (s : ByteArray) (a : F) (p : Option Addr) (c : Nat) (fa : List Nat) (w : World) (ham : a.size ≤ m) (hp : RdP w a p fa) (hac : a.len ≤ c) (hc : c ≤ 9223372036854775807) (hfit : (F.cons op n s a .nil).Fits) (hsm : (F.cons op n s a .nil).Small) (hl : Asks w lb L lp lc) (hg : SpGood L) (ho : Hid (op = 2)) (hl4 : L.length ≤ 4) (hlc : L.length ≤ lc) (hcm : lc ≤ maxLen) (hri : Rising (spKeys L)) :
    Calls Tryz.prog 80 #[.agg #[.int .i64 op, .int .i64 n, .string s, .slice p a.len c], .func (.func 142) #[] #[.pointer (some ⟨lb, 0, none⟩)]] w fun e w' => e = .returned (.agg #[.int .i64 (bndE L op n s a).1, .int .i64 (bndE L op n s a).2]) ∧ Below w.heap.size w w' := by
  obtain ⟨⟨o1, o2⟩, ⟨n1, n2⟩, hs, hfa, _⟩ := hfit
  obtain ⟨⟨⟨_, k2⟩, ⟨k3, k4⟩, k5⟩, hsa, _⟩ := hsm
  have HP := hid hp
  have HL := hid hl
  have IH := hid ih
  have HFA := hid hfa
  have HSA := hid hsa
  have HK := hid k5
  have HR0 := hid (VBRel.start L op n s a p c w)
  have hal : (a.len : Int) ≤ 9223372036854775807 := by omega
  have hl0 := HL
  have hin : Hid (∀ b ∈ bndF L a, In999 b) := hid (bnd_in hg a hsa)
  have ha3 : a.len ≤ 3 := by have := k5; unfold ar at this; (repeat' split at this) <;> omega
  clear hp hl ih hfa hsa k5
  go_enter Tryz.func80, Tryz.ntmps80
  go_wp2_with fail
  go_loopw [14] (fun i wr => ∃ (k : Nat), k ≤ a.len ∧ i = .int .i64 k ∧ VBRel L op n s a p c w k wr) (fun i _ => a.len - (intOf i).toNat)
  case atStart => exact ⟨0, by omega, rfl, HR0.out⟩
  case round =>
    obtain ⟨k, hk, rfl, hrel2⟩ := hrel
    have HREL := hid hrel2
    obtain ⟨_, _, _, _, hE, hR, _, hbl, hz⟩ := hrel2
    have HEb := hid hE
    have HRb := hid hR
    have HB := hid hbl
    obtain ⟨⟨q0, q1, q2, q3⟩, f0, f1, f2, f3⟩ := blk4 hE
    obtain ⟨⟨u0, u1⟩, g0, g1⟩ := blk2 hR
    have hpr : RdP wr a p fa := HP.out.ext (S := fun _ => False) (Ext.of_below hbl) (fun _ _ => id)
    clear hE hR hbl
    by_cases hlt : k < a.len
    · rcases hpr with ⟨h0, _⟩ | ⟨b, o, xa, fb, rfl, _, _, hcell, _, hx⟩
      · rw [h0] at hlt; simp [F.len] at hlt
      obtain ⟨op', n', s', a', p', c', fa', hdrop, x0, x1, x2, x3, hl', hc', hp', _⟩ := hx.at hlt
      have y0 := hcell _ _ x0
      have y1 := hcell _ _ x1
      have y2 := hcell _ _ x2
      have y3 := hcell _ _ x3
      simp only [← Nat.add_assoc, Nat.mul_comm 4 k] at y0 y1 y2 y3
      have hfit' : (F.cons op' n' s' a' .nil).Fits := by
        have := F.fits_drop k HFA.out; rw [hdrop] at this; exact ⟨this.1, this.2.1, this.2.2.1, this.2.2.2.1, trivial⟩
      have hsm' : (F.cons op' n' s' a' .nil).Small := by
        have := F.small_drop k HSA.out; rw [hdrop] at this; exact ⟨this.1, this.2.1, trivial⟩
      have hsz' : a'.size < m := by
        have := F.size_split k a hdrop; omega
      have HG := hid (show (bndF L a).getD k (0, 0) = bndE L op' n' s' a' from bndF_getD L a k hdrop)
      have HP' := hid (And.intro hp' (And.intro hl' (And.intro hc' (And.intro hfit' (And.intro hsm' hsz')))))
      have HLw := hid (hl0.out.ext (Ext.of_below HB.out))
      clear hcell hx x0 x1 x2 x3 hp' hl' hc' hfit' hsm' hsz' hdrop
      go_wp2_with fail
      refine (IH.out op' n' s' a' p' c' fa' _ HP'.out.2.2.2.2.2 (HP'.out.1.ext (S := fun _ => False) ((Ext.refl _).alloc _) (fun _ _ => id)) HP'.out.2.1 HP'.out.2.2.1 HP'.out.2.2.2.1 HP'.out.2.2.2.2.1 (HLw.out.ext ((Ext.refl _).alloc _))).mono ?_
      rintro e w3 ⟨rfl, hb3⟩
      have E3 := hid (((Ext.refl (S := fun _ => False) wr).alloc (.cells #[.int .i64 op', .int .i64 n', .string s', .slice p' a'.len c'] 28)).trans (Ext.of_below hb3))
      clear hb3
      obtain ⟨z, ⟨c0, c1⟩, ⟨d0, d1⟩, _⟩ := HREL.out.cells k (by omega)
      have hlw : w.heap.size + 2 < wr.heap.size := World.block_lt_of_cell? _ _ c0
      have c0' := E3.out.cell_some c0 id
      have c1' := E3.out.cell_some c1 id
      have d0' := (E3.out.frozen (p := ⟨w.heap.size + 2, k * 2, none⟩) hlw id).trans d0
      have d1' := (E3.out.frozen (p := ⟨w.heap.size + 2, k * 2 + 1, none⟩) hlw id).trans d1
      clear c0 c1 d0 d1 q0 q1 q2 q3 f0 f1 f2 f3 u0 u1 g0 g1
      have hk3 : (k : Int) < 3 := by omega
      generalize bndE L op' n' s' a' = bb at *
      obtain ⟨b1, b2⟩ := bb
      go_wp2_with fail
      have HN := hid (HREL.out.next E3.out (by omega) HG.out)
      go_roundw
      case rel => exact ⟨k + 1, by omega, by go_num, HN.out⟩
      case measure => simp [intOf]; omega
    · have hka : k = a.len := by omega
      clear hpr
      subst hka
      obtain rfl := ho.out
      obtain ⟨⟨x1, x2⟩, ⟨c0, c1⟩, _, hx, hx'⟩ := HREL.out.cells 0 (by omega)
      obtain ⟨⟨y1, y2⟩, ⟨c2, c3⟩, _, hy, hy'⟩ := HREL.out.cells 1 (by omega)
      obtain ⟨⟨z1, z2⟩, ⟨c4, c5⟩, _, hz1, hz1'⟩ := HREL.out.cells 2 (by omega)
      simp only [Nat.zero_mul, Nat.one_mul, Nat.zero_add, Nat.reduceMul, Nat.reduceAdd] at c0 c1 c2 c3 c4 c5
      have hla : a.len = 0 := by have := HK.out; simp [ar] at this; omega
      have hbl := bndF_length L a
      have HE : Hid (bndE L 2 n s a = _) := hid (by rw [bndE, if_neg (by omega), if_pos rfl])
      have hw1 : IntKind.i64.wrap 1 = 1 := rfl
      have hgl : w.heap.size + 2 < wr.heap.size := World.block_lt_of_cell? _ _ c0
      have hgl2 : w.heap.size + 2 < wr.heap.size + 1 := by omega
      clear hin hx hx' hy hy' hz1 hz1' hbl hla HREL
      go_wp2_with fail
      go_region
      all_goals
        generalize hw6 : World.drew _ = w6
        obtain ⟨n0, n1, E6⟩ := two_new hw6
        have hz6 : w.heap.size + 3 ≤ w6.heap.size := Nat.le_trans hz E6.size
        have HB6 := hid (below_ext HB.out E6 (by omega))
        have HR6 := hid (E6.heap HRb.out id)
        have m0 := E6.cell_some q0 id
        have m1 := E6.cell_some q1 id
        have m2 := E6.cell_some q2 id
        have e4 := E6.cell_some c4 id
        have e5 := E6.cell_some c5 id
        have HL6 := hid ((hl0.out.ext (Ext.of_below HB.out)).ext E6)
        obtain ⟨⟨a0, a1⟩, _, _⟩ := blk2 n0
        obtain ⟨⟨b0, b1⟩, _, _⟩ := blk2 n1
        obtain ⟨⟨r0, r1⟩, t0, t1⟩ := blk2 HR6.out
        clear hw6 n0 n1 E6 q0 q1 q2 q3 f0 f1 f2 f3 u0 u1 g0 g1 c0 c1 c2 c3 c4 c5
        go_wp2_with fail
        refine (v_range1 L lp lc s lb _ HL6.out hl4 hlc hcm hri).mono ?_
        rintro e w5 ⟨rfl, hb5⟩
        obtain ⟨⟨r0', r1'⟩, t0', t1'⟩ := blk2 ((Ext.of_below (S := fun _ => False) hb5).heap HR6.out id)
        have HB5 := hid (below_ext HB6.out (Ext.of_below hb5) (by omega))
        clear hb5 r0 r1 t0 t1
        generalize hrr : look s L = rr
        have HC := hid hrr
        clear hrr
        go_wp2_with fail
        refine bodyPost_ret (v := .agg #[.int .i64 rr.1, .int .i64 rr.2]) (by simp [results, Tryz.results80, go_sem, r0', r1']) rfl ⟨by rw [HE.out, HC.out], below_set2 HB5.out (by omega) _ _⟩
end Go.Proofs.YtckbhlnncokigaaGreat
