/- Texts joined: RBndO7b. -/
import Derived.Test.YtckbhlnncokigaaGreatJB11
/- boundsOf, operator 7. -/
namespace Go.Proofs.YtckbhlnncokigaaGreat
open Go.RowKit

set_option maxRecDepth 100000 in
set_option maxHeartbeats 8000000 in
theorem r_bounds7b (m : Nat) (L : List (ByteArray × Int × Int)) (lp : Option Addr) (lc : Nat) (ih : ∀ (op n : Int) (s : ByteArray) (a : F) (p : Option Addr) (c : Nat) (fa : List Nat) (w : World), a.size < m → RdP w a p fa → a.len ≤ c → c ≤ 9223372036854775807 → (F.cons op n s a .nil).Fits → (F.cons op n s a .nil).Small → SpP w L lp →
      Calls Tryz.prog 83 #[.agg #[.int .i64 op, .int .i64 n, .string s, .slice p a.len c], .slice lp L.length lc] w fun e w' => e = .returned (.agg #[.int .i64 (bndE L op n s a).1, .int .i64 (bndE L op n s a).2]) ∧ Below w.heap.size w w')
    (op n : Int) (s : ByteArray) (a : F) (p : Option Addr) (c : Nat) (fa : List Nat) (w : World) (ham : a.size ≤ m) (hp : RdP w a p fa) (hac : a.len ≤ c) (hc : c ≤ 9223372036854775807) (hfit : (F.cons op n s a .nil).Fits) (hsm : (F.cons op n s a .nil).Small) (hl : SpP w L lp) (hg : SpGood L) (ho : Hid (op = 7)) (hcnd : Hid (∀ x1 x2 y1 y2 : Int, bndF L a = [(x1, x2), (y1, y2)] → (y1 ≤ x2 ∧ (y2 < x1)))) :
    Calls Tryz.prog 83 #[.agg #[.int .i64 op, .int .i64 n, .string s, .slice p a.len c], .slice lp L.length lc] w fun e w' => e = .returned (.agg #[.int .i64 (bndE L op n s a).1, .int .i64 (bndE L op n s a).2]) ∧ Below w.heap.size w w' := by
  obtain ⟨⟨o1, o2⟩, ⟨n1, n2⟩, hs, hfa, _⟩ := hfit
  obtain ⟨⟨⟨_, k2⟩, ⟨k3, k4⟩, k5⟩, hsa, _⟩ := hsm
  have h1 : 3 ≤ op := by have := ho.out; omega
  have HP := hid hp
  have HL := hid hl
  have IH := hid ih
  have HFA := hid hfa
  have HSA := hid hsa
  have HK := hid k5
  have HE : Hid (bndE L op n s a = comb op (bndF L a)) := hid (by rw [bndE, if_neg (by omega), if_neg (by omega)])
  have e1 : (op == 1) = false := by simp; omega
  have e2 : (op == 2) = false := by simp; omega
  have hR0 : BRel L op n s a p c w 0 (.slice none 0 0) ((w.alloc (.cells #[.int .i64 op, .int .i64 n, .string s, .slice p a.len c] 28)).alloc (.cells #[.int .i64 0, .int .i64 0] 122)) :=
    ⟨[], rfl, rfl, World.ownsRow_nil _ _ _ _, (((Ext.refl (S := fun _ => False) _).alloc _).heap (heap_new w _) id), by have := heap_new (w.alloc (.cells #[.int .i64 op, .int .i64 n, .string s, .slice p a.len c] 28)) (.cells #[.int .i64 0, .int .i64 0] 122); simpa using this, (alloc_below w _).trans ((alloc_below _ _).mono (by simp)), by simp⟩
  have HR0 := hid hR0
  have hal : (a.len : Int) ≤ 9223372036854775807 := by omega
  have hl0 := HL
  obtain ⟨i0, hi0, hz0, hz1, hz2⟩ := info_parts info_bnds
  have hin : Hid (∀ b ∈ bndF L a, In999 b) := hid (bnd_in hg a hsa)
  have ha3 : a.len ≤ 3 := by have := k5; unfold ar at this; (repeat' split at this) <;> omega
  clear hp hl ih hfa hsa k5 hR0
  go_enter Tryz.func83, Tryz.ntmps83
  go_wp2_with fail
  go_loopw [6, 43] (fun v i wr => ∃ (k : Nat) (u : Value), k ≤ a.len ∧ i = .int .i64 k ∧ v = u ∧ BRel L op n s a p c w k u wr) (fun _ i _ => a.len - (intOf i).toNat)
  case atStart => exact ⟨0, _, by omega, rfl, rfl, HR0.out⟩
  case round =>
    obtain ⟨k, v, hk, rfl, hgv, acc, hlen, hacc, hown, hE, hR, hbl, hz⟩ := hrel
    subst hgv
    have HA := hid (And.intro hlen hacc)
    have HO := hid hown
    have HEb := hid hE
    have HRb := hid hR
    have HB := hid hbl
    obtain ⟨⟨q0, q1, q2, q3⟩, f0, f1, f2, f3⟩ := blk4 hE
    obtain ⟨⟨u0, u1⟩, g0, g1⟩ := blk2 hR
    have hpr : RdP wr a p fa := HP.out.ext (S := fun _ => False) (Ext.of_below hbl) (fun _ _ => id)
    clear hlen hacc hown hE hR hbl
    by_cases hlt : k < a.len
    · rcases hpr with ⟨h0, _⟩ | ⟨b, o, xa, fb, rfl, _, _, hcell, _, hx⟩
      · rw [h0] at hlt; simp [F.len] at hlt
      obtain ⟨op', n', s', a', p', c', fa', hdrop, x0, x1, x2, x3, hl', hc', hp', _⟩ := hx.at hlt
      have y0 := hcell _ _ x0
      have y1 := hcell _ _ x1
      have y2 := hcell _ _ x2
      have y3 := hcell _ _ x3
      simp only [← Nat.add_assoc, Nat.mul_comm 4 k] at y0 y1 y2 y3
      have hfit' : (F.cons op' n' s' a' .nil).Fits := by
        have := F.fits_drop k HFA.out; rw [hdrop] at this; exact ⟨this.1, this.2.1, this.2.2.1, this.2.2.2.1, trivial⟩
      have hsm' : (F.cons op' n' s' a' .nil).Small := by
        have := F.small_drop k HSA.out; rw [hdrop] at this; exact ⟨this.1, this.2.1, trivial⟩
      have hsz' : a'.size < m := by
        have := F.size_split k a hdrop; omega
      have HD := hid hdrop
      have HP' := hid (And.intro hp' (And.intro hl' (And.intro hc' (And.intro hfit' (And.intro hsm' hsz')))))
      have HLw := hid (hl0.out.ext (S := fun _ => False) (Ext.of_below HB.out) (fun _ _ => id))
      clear hcell hx x0 x1 x2 x3 hp' hl' hc' hfit' hsm' hsz' hdrop
      have hkm : k + 1 ≤ maxLen := by unfold maxLen; omega
      go_wp2_with fail
      refine (IH.out op' n' s' a' p' c' fa' _ HP'.out.2.2.2.2.2 (HP'.out.1.ext (S := fun _ => False) ((Ext.refl _).alloc _) (fun _ _ => id)) HP'.out.2.1 HP'.out.2.2.1 HP'.out.2.2.2.1 HP'.out.2.2.2.2.1 (HLw.out.ext (S := fun _ => False) ((Ext.refl _).alloc _) (fun _ _ => id))).mono ?_
      rintro e w3 ⟨rfl, hb3⟩
      have hz3 : wr.heap.size + 1 ≤ w3.heap.size := by have := hb3.size; simpa using this
      have HB3 := hid ((alloc_below wr _).trans (hb3.mono (by simp)))
      have HO3 := hid (ownsRow_ext (S := fun _ => False) HO.out (Ext.of_below HB3.out) (fun _ _ _ => id))
      clear hb3
      have HEr : Hid (bndF L (a.drop k) = bndE L op' n' s' a' :: bndF L (a.drop (k + 1))) := hid (by rw [HD.out, bndF_cons])
      generalize bndE L op' n' s' a' = bb at *
      obtain ⟨b1, b2⟩ := bb
      go_wp2_with (at_builtin; refine wpList_append_lies _ rfl _ _ 180 rfl (w.heap.size + 2) 122 i0 _ 2 16 Tryz.underlying180 hi0 hz0 hz1 hz2 rfl (by decide) _ _ _ (by rfl) (HO3.out.alloc _) ⟨w3.heap.size, 0, none⟩ 1 1 _ rfl rfl (World.news_of_block (heap_alloc_new w3 _)) (fun x hx => by simp at hx; rcases hx with rfl | rfl <;> rfl) (by omega) hkm (by omega) (by simp <;> omega) _ rfl ?_; intro g cap w4 hown4 hgrow hat4 hlt4)
      have hne : ∀ b, b < w.heap.size + 2 → some b ≠ u6.ownBlock := fun b hb e => by have := (HO.out.lt b e.symm).1; omega
      have e4 : Ext (fun b => some b = u6.ownBlock) wr w4 := (((Ext.of_below HB3.out)).alloc _).grown hgrow (fun b hb => .inl hb.symm)
      go_roundw
      case rel =>
        refine ⟨k + 1, _, by omega, by go_num, rfl, acc ++ [(b1, b2)], by simp [HA.out.1], ?_, ?_, e4.heap HEb.out (hne _ (by omega)), e4.heap HRb.out (hne _ (by omega)), ?_, Nat.le_trans hz e4.size⟩
        · rw [HA.out.2, HEr.out]; simp
        · rw [prV_app]; exact hown4
        · exact ⟨e4.os.trans HB.out.os, e4.tape.trans HB.out.tape, e4.output.trans HB.out.output, Nat.le_trans HB.out.size e4.size, fun i hi => (e4.block i (by have := HB.out.size; omega) (hne _ (by omega))).trans (HB.out.block i hi)⟩
      case measure => simp [intOf]; omega
    · have hka : k = a.len := by omega
      have hfin : Hid (bndF L a = acc) := hid (by rw [HA.out.2, F.eq_nil_of_len (f := a.drop k) (by rw [F.len_drop]; omega)]; simp [bndF])
      have HIN := hid (hin.out)
      rw [hfin.out] at HE HIN
      clear hpr
      subst hka
      obtain ⟨gg, cc, rfl, hgb, hgc, hgm, hcell, _⟩ := own_cells HO.out (by have := HK.out; unfold ar at this; omega)
      obtain rfl := ho.out
      have hla : a.len = 2 := by have := HK.out; simp [ar] at this; omega
      have hl2 := HA.out.1
      rw [hla] at hl2
      obtain ⟨⟨x1, x2⟩, ⟨y1, y2⟩, rfl⟩ := len_two hl2
      have c0 := hcell 0 _ rfl
      have c1 := hcell 1 _ rfl
      have c2 := hcell 2 _ rfl
      have c3 := hcell 3 _ rfl
      have hx := HIN.out (x1, x2) (by simp)
      have hy := HIN.out (y1, y2) (by simp)
      simp only [In999] at hx hy
      obtain ⟨hx1, hx2, hx3⟩ := hx
      obtain ⟨hy1, hy2, hy3⟩ := hy
      have hla' : (a.len : Int) = 2 := by omega
      have hw1 : IntKind.i64.wrap 1 = 1 := rfl
      have hgl : gg < wr.heap.size := World.block_lt_of_cell? _ _ c0
      have hgl2 : gg < wr.heap.size + 1 := by omega
      clear hcell hl2 HIN hin
      go_wp2_with fail
      go_region
      all_goals
        generalize hw6 : World.drew _ = w6
        obtain ⟨n0, n1, E6⟩ := two_new hw6
        have hz6 : w.heap.size + 2 ≤ w6.heap.size := Nat.le_trans hz E6.size
        have HB6 := hid (below_ext HB.out E6 (by omega))
        have HR6 := hid (E6.heap HRb.out id)
        have m0 := E6.cell_some q0 id
        obtain ⟨⟨a0, a1⟩, _, _⟩ := blk2 n0
        obtain ⟨⟨b0, b1⟩, _, _⟩ := blk2 n1
        obtain ⟨⟨r0, r1⟩, t0, t1⟩ := blk2 HR6.out
        clear hw6 n0 n1 E6 q0 q1 q2 q3 f0 f1 f2 f3 u0 u1 g0 g1 c0 c1 c2 c3
        have hc7 := hcnd.out x1 x2 y1 y2 hfin.out
        have HC : Hid (comb 7 [(x1, x2), (y1, y2)] = (tr (x1 = x2 ∧ y1 = y2 ∧ x1 = y1), tr (¬ (x2 < y1 ∨ y2 < x1)))) := hid rfl
        have HT : Hid (tr (¬ (x2 < y1 ∨ y2 < x1)) = if (!decide (x2 < y1) && !decide (y2 < x1)) = true then 1 else 0) := hid (by unfold tr; simp)
        have hq : ((x1 == x2) = false ∧ tr (x1 = x2 ∧ y1 = y2 ∧ x1 = y1) = 0) ∨ ((x1 == x2) = true ∧ (y1 == y2) = false ∧ tr (x1 = x2 ∧ y1 = y2 ∧ x1 = y1) = 0) ∨ ((x1 == x2) = true ∧ (y1 == y2) = true ∧ (x1 == y1) = false ∧ tr (x1 = x2 ∧ y1 = y2 ∧ x1 = y1) = 0) ∨ ((x1 == x2) = true ∧ (y1 == y2) = true ∧ (x1 == y1) = true ∧ tr (x1 = x2 ∧ y1 = y2 ∧ x1 = y1) = 1) := by
          by_cases k1 : x1 = x2 <;> by_cases k2 : y1 = y2 <;> by_cases k3 : x1 = y1 <;> simp [k1, k2, k3, tr] <;> (try omega) <;> (try (simp_all; done))
        generalize tr (x1 = x2 ∧ y1 = y2 ∧ x1 = y1) = t1 at HC hq
        generalize tr (¬ (x2 < y1 ∨ y2 < x1)) = t2 at HC HT
        have hp : (y1 ≤ x2 ∧ (y2 < x1)) ∧ t2 = 0 := ⟨hc7, by rw [HT.out]; simp [hc7.2]⟩
        clear HT hc7 hcnd
        obtain ⟨⟨p1, p2⟩, e2⟩ := hp
        have E2 := hid e2
        clear e2
        rcases hq with ⟨k1, e1⟩ | ⟨k1, k2, e1⟩ | ⟨k1, k2, k3, e1⟩ | ⟨k1, k2, k3, e1⟩
        all_goals
          first
            | (exfalso; simp at k1 k2 k3; omega)
            | skip
        all_goals
          have E1 := hid e1
          clear e1
          go_wp2_with fail
          refine (r_truth _ _).mono ?_
          rintro e w7 ⟨rfl, rfl⟩
          go_wp2_with fail
          refine (r_truth _ _).mono ?_
          rintro e w7 ⟨rfl, rfl⟩
          go_wp2_with fail
          refine bodyPost_ret (v := .agg #[.int .i64 t1, .int .i64 t2]) (by simp [results, Tryz.results83, go_sem, r0, r1, E1.out, E2.out]) rfl ⟨by rw [HE.out, HC.out], below_set2 HB6.out (by omega) _ _⟩
end Go.Proofs.YtckbhlnncokigaaGreat
