/- Texts joined: VRngO9, RSpans. -/
import Derived.Test.YtckbhlnncokigaaGreatJB11
import Derived.Test.YtckbhlnncokigaaGreatJB06
import Derived.Test.YtckbhlnncokigaaGreatJB10
/- rangeOf, operator 9. (Made by tools/gen/rng.py.) -/
namespace Go.Proofs.YtckbhlnncokigaaGreat
open Go.RowKit

set_option maxRecDepth 100000 in
set_option maxHeartbeats 8000000 in
theorem v_rng9 (m : Nat) (L : List (ByteArray × Int × Int)) (lp : Option Addr) (lc lb : Nat) (ih : ∀ (op n : Int) (s : ByteArray) (a : F) (p : Option Addr) (c : Nat) (fa : List Nat) (w : World), a.size < m → RdP w a p fa → a.len ≤ c → c ≤ 9223372036854775807 → (F.cons op n s a .nil).Fits → (F.cons op n s a .nil).Small → Asks w lb L lp lc →
      Calls Tryz.prog 80 #[.agg #[.int .i64 op, .int .i64 n, .string s, .slice p a.len c], .func (.func 142) #[] #[.pointer (some ⟨lb, 0, none⟩)]] w fun e w' => e = .returned (.agg #[.int .i64 (bndE L op n s a).1, .int .i64 (bndE L op n s a).2]) ∧ Below w.heap.size w w')
    (op n : Int) (s : ByteArray) (a : F) (p : Option Addr) (c : Nat) (fa : List Nat) (w : World) (ham : a.size ≤ m) (hp : RdP w a p fa) (hac : a.len ≤ c) (hc : c ≤ 9223372036854775807) (hfit : (F.cons op n s a .nil).Fits) (hsm : (F.cons op n s a .nil).Small) (hl : Asks w lb L lp lc) (hg : SpGood L) (ho : Hid (op = 9)) :
    Calls Tryz.prog 80 #[.agg #[.int .i64 op, .int .i64 n, .string s, .slice p a.len c], .func (.func 142) #[] #[.pointer (some ⟨lb, 0, none⟩)]] w fun e w' => e = .returned (.agg #[.int .i64 (bndE L op n s a).1, .int .i64 (bndE L op n s a).2]) ∧ Below w.heap.size w w' := by
  obtain ⟨⟨o1, o2⟩, ⟨n1, n2⟩, hs, hfa, _⟩ := hfit
  obtain ⟨⟨⟨_, k2⟩, ⟨k3, k4⟩, k5⟩, hsa, _⟩ := hsm
  have HP := hid hp
  have HL := hid hl
  have IH := hid ih
  have HFA := hid hfa
  have HSA := hid hsa
  have HK := hid k5
  have HR0 := hid (VBRel.start L op n s a p c w)
  have hal : (a.len : Int) ≤ 9223372036854775807 := by omega
  have hl0 := HL
  have hin : Hid (∀ b ∈ bndF L a, In999 b) := hid (bnd_in hg a hsa)
  have ha3 : a.len ≤ 3 := by have := k5; unfold ar at this; (repeat' split at this) <;> omega
  clear hp hl ih hfa hsa k5
  go_enter Tryz.func80, Tryz.ntmps80
  go_wp2_with fail
  go_loopw [14] (fun i wr => ∃ (k : Nat), k ≤ a.len ∧ i = .int .i64 k ∧ VBRel L op n s a p c w k wr) (fun i _ => a.len - (intOf i).toNat)
  case atStart => exact ⟨0, by omega, rfl, HR0.out⟩
  case round =>
    obtain ⟨k, hk, rfl, hrel2⟩ := hrel
    have HREL := hid hrel2
    obtain ⟨_, _, _, _, hE, hR, _, hbl, hz⟩ := hrel2
    have HEb := hid hE
    have HRb := hid hR
    have HB := hid hbl
    obtain ⟨⟨q0, q1, q2, q3⟩, f0, f1, f2, f3⟩ := blk4 hE
    obtain ⟨⟨u0, u1⟩, g0, g1⟩ := blk2 hR
    have hpr : RdP wr a p fa := HP.out.ext (S := fun _ => False) (Ext.of_below hbl) (fun _ _ => id)
    clear hE hR hbl
    by_cases hlt : k < a.len
    · rcases hpr with ⟨h0, _⟩ | ⟨b, o, xa, fb, rfl, _, _, hcell, _, hx⟩
      · rw [h0] at hlt; simp [F.len] at hlt
      obtain ⟨op', n', s', a', p', c', fa', hdrop, x0, x1, x2, x3, hl', hc', hp', _⟩ := hx.at hlt
      have y0 := hcell _ _ x0
      have y1 := hcell _ _ x1
      have y2 := hcell _ _ x2
      have y3 := hcell _ _ x3
      simp only [← Nat.add_assoc, Nat.mul_comm 4 k] at y0 y1 y2 y3
      have hfit' : (F.cons op' n' s' a' .nil).Fits := by
        have := F.fits_drop k HFA.out; rw [hdrop] at this; exact ⟨this.1, this.2.1, this.2.2.1, this.2.2.2.1, trivial⟩
      have hsm' : (F.cons op' n' s' a' .nil).Small := by
        have := F.small_drop k HSA.out; rw [hdrop] at this; exact ⟨this.1, this.2.1, trivial⟩
      have hsz' : a'.size < m := by
        have := F.size_split k a hdrop; omega
      have HG := hid (show (bndF L a).getD k (0, 0) = bndE L op' n' s' a' from bndF_getD L a k hdrop)
      have HP' := hid (And.intro hp' (And.intro hl' (And.intro hc' (And.intro hfit' (And.intro hsm' hsz')))))
      have HLw := hid (hl0.out.ext (Ext.of_below HB.out))
      clear hcell hx x0 x1 x2 x3 hp' hl' hc' hfit' hsm' hsz' hdrop
      go_wp2_with fail
      refine (IH.out op' n' s' a' p' c' fa' _ HP'.out.2.2.2.2.2 (HP'.out.1.ext (S := fun _ => False) ((Ext.refl _).alloc _) (fun _ _ => id)) HP'.out.2.1 HP'.out.2.2.1 HP'.out.2.2.2.1 HP'.out.2.2.2.2.1 (HLw.out.ext ((Ext.refl _).alloc _))).mono ?_
      rintro e w3 ⟨rfl, hb3⟩
      have E3 := hid (((Ext.refl (S := fun _ => False) wr).alloc (.cells #[.int .i64 op', .int .i64 n', .string s', .slice p' a'.len c'] 28)).trans (Ext.of_below hb3))
      clear hb3
      obtain ⟨z, ⟨c0, c1⟩, ⟨d0, d1⟩, _⟩ := HREL.out.cells k (by omega)
      have hlw : w.heap.size + 2 < wr.heap.size := World.block_lt_of_cell? _ _ c0
      have c0' := E3.out.cell_some c0 id
      have c1' := E3.out.cell_some c1 id
      have d0' := (E3.out.frozen (p := ⟨w.heap.size + 2, k * 2, none⟩) hlw id).trans d0
      have d1' := (E3.out.frozen (p := ⟨w.heap.size + 2, k * 2 + 1, none⟩) hlw id).trans d1
      clear c0 c1 d0 d1 q0 q1 q2 q3 f0 f1 f2 f3 u0 u1 g0 g1
      have hk3 : (k : Int) < 3 := by omega
      generalize bndE L op' n' s' a' = bb at *
      obtain ⟨b1, b2⟩ := bb
      go_wp2_with fail
      have HN := hid (HREL.out.next E3.out (by omega) HG.out)
      go_roundw
      case rel => exact ⟨k + 1, by omega, by go_num, HN.out⟩
      case measure => simp [intOf]; omega
    · have hka : k = a.len := by omega
      clear hpr
      subst hka
      obtain rfl := ho.out
      obtain ⟨⟨x1, x2⟩, ⟨c0, c1⟩, _, hx, hx'⟩ := HREL.out.cells 0 (by omega)
      obtain ⟨⟨y1, y2⟩, ⟨c2, c3⟩, _, hy, hy'⟩ := HREL.out.cells 1 (by omega)
      obtain ⟨⟨z1, z2⟩, ⟨c4, c5⟩, _, hz1, hz1'⟩ := HREL.out.cells 2 (by omega)
      simp only [Nat.zero_mul, Nat.one_mul, Nat.zero_add, Nat.reduceMul, Nat.reduceAdd] at c0 c1 c2 c3 c4 c5
      have hla : a.len = 3 := by have := HK.out; simp [ar] at this; omega
      have hbl := bndF_length L a
      obtain ⟨⟨v1, v2⟩, ⟨t1, t2⟩, ⟨s1, s2⟩, hbv⟩ := len_three (l := bndF L a) (by omega)
      have HIN := hid (hin.out)
      rw [hbv] at hx hy hz1 HIN
      obtain ⟨rfl, rfl⟩ : x1 = v1 ∧ x2 = v2 := by have := hx (by omega); simpa using this
      obtain ⟨rfl, rfl⟩ : y1 = t1 ∧ y2 = t2 := by have := hy (by omega); simpa using this
      obtain ⟨rfl, rfl⟩ : z1 = s1 ∧ z2 = s2 := by have := hz1 (by omega); simpa using this
      obtain ⟨hx1, hx2, hx3⟩ : 0 ≤ x1 ∧ x1 ≤ x2 ∧ x2 ≤ 999 := HIN.out (x1, x2) (by simp)
      have HE : Hid (bndE L 9 n s a = comb 9 [(x1, x2), (y1, y2), (z1, z2)]) := hid (by rw [bndE, if_neg (by omega), if_neg (by omega), hbv])
      clear hbv HIN
      have hw1 : IntKind.i64.wrap 1 = 1 := rfl
      have hgl : w.heap.size + 2 < wr.heap.size := World.block_lt_of_cell? _ _ c0
      have hgl2 : w.heap.size + 2 < wr.heap.size + 1 := by omega
      clear hin hx hx' hy hy' hz1 hz1' hbl hla HREL
      go_wp2_with fail
      go_region
      all_goals
        generalize hw6 : World.drew _ = w6
        obtain ⟨n0, n1, E6⟩ := two_new hw6
        have hz6 : w.heap.size + 3 ≤ w6.heap.size := Nat.le_trans hz E6.size
        have HB6 := hid (below_ext HB.out E6 (by omega))
        have HR6 := hid (E6.heap HRb.out id)
        have m0 := E6.cell_some q0 id
        have m1 := E6.cell_some q1 id
        have m2 := E6.cell_some q2 id
        have e4 := E6.cell_some c4 id
        have e5 := E6.cell_some c5 id
        have HL6 := hid ((hl0.out.ext (Ext.of_below HB.out)).ext E6)
        obtain ⟨⟨a0, a1⟩, _, _⟩ := blk2 n0
        obtain ⟨⟨b0, b1⟩, _, _⟩ := blk2 n1
        obtain ⟨⟨r0, r1⟩, t0, t1⟩ := blk2 HR6.out
        clear hw6 n0 n1 E6 q0 q1 q2 q3 f0 f1 f2 f3 u0 u1 g0 g1 c0 c1 c2 c3 c4 c5
        go_wp2_with fail
        refine (v_chosen x1 x2 y1 y2 z1 z2 _ ⟨hx1, hx2, hx3⟩).mono ?_
        rintro e w5 ⟨rfl, hb5⟩
        obtain ⟨⟨r0', r1'⟩, t0', t1'⟩ := blk2 ((Ext.of_below (S := fun _ => False) hb5).heap HR6.out id)
        have HB5 := hid (below_ext HB6.out (Ext.of_below hb5) (by omega))
        clear hb5 r0 r1 t0 t1
        have HC : Hid (comb 9 [(x1, x2), (y1, y2), (z1, z2)] = chB (x1, x2) (y1, y2) (z1, z2)) := hid (by rfl)
        generalize chB (x1, x2) (y1, y2) (z1, z2) = rr at HC ⊢
        go_wp2_with fail
        refine bodyPost_ret (v := .agg #[.int .i64 rr.1, .int .i64 rr.2]) (by simp [results, Tryz.results80, go_sem, r0', r1']) rfl ⟨by rw [HE.out, HC.out], below_set2 HB5.out (by omega) _ _⟩
end Go.Proofs.YtckbhlnncokigaaGreat
/- SpansFault, the reference's. -/
namespace Go.Proofs.YtckbhlnncokigaaGreat
open Go.RowKit

set_option maxHeartbeats 400000 in
theorem r_in (n lo hi : Int) (w : World) : Calls Tryz.prog 82 #[.int .i64 n, .int .i64 lo, .int .i64 hi] w fun e w' => e = .returned (.bool (decide (lo ≤ n ∧ n ≤ hi))) ∧ w = w' := by
  by_cases h1 : lo ≤ n
  · go_enter Tryz.func82, Tryz.ntmps82
    go_wp2
    go_ret
    exact ⟨by simp [h1], rfl⟩
  · have h2 : decide (lo ≤ n) = false := by simpa using h1
    go_enter Tryz.func82, Tryz.ntmps82
    go_wp2
    go_ret
    exact ⟨by simp, rfl⟩
theorem r_in_b (n lo hi : Int) (b : Bool) (hb : decide (lo ≤ n ∧ n ≤ hi) = b) (w : World) : Calls Tryz.prog 82 #[.int .i64 n, .int .i64 lo, .int .i64 hi] w fun e w' => e = .returned (.bool b) ∧ w = w' := by subst hb; exact r_in n lo hi w

theorem bdrewN' {B : Nat} {a w : World} (h : Below B a w) (n : Nat) : Below B a (w.drewN n) := ⟨h.os, h.tape, h.output, h.size, h.block⟩

/-- The error of spans, one after another. -/
def spErr : Option ByteArray → List (ByteArray × Int × Int) → Int
  | _, [] => 0
  | p, x :: r =>
    if nameB x.1.data.toList = false then 5
    else if ¬ (0 ≤ x.2.1 ∧ x.2.1 ≤ 999) ∨ ¬ (x.2.1 ≤ x.2.2 ∧ x.2.2 ≤ 999) then 1
    else if (p.elim false fun y => Op.bytesLess x.1.toList y.toList || x.1.toList == y.toList) = true then 7
    else spErr (some x.1) r

def prevS (L : List (ByteArray × Int × Int)) : Nat → Option ByteArray
  | 0 => none
  | k + 1 => (L[k]?).map (·.1)

set_option maxRecDepth 100000 in
set_option maxHeartbeats 2000000 in
theorem r_SpansFault (L : List (ByteArray × Int × Int)) (p : Option Addr) (c : Nat) (w : World) (hp : SpP w L p) (hl : L.length ≤ 3) (_hlc : L.length ≤ c) (_hcm : c ≤ maxLen) (hok : ∀ x ∈ L, SpOk x) :
    Calls Tryz.prog 34 #[.slice p L.length c] w fun e w' => e = .returned (.int .i64 (spErr none L)) ∧ Below w.heap.size w w' := by
  have HP := hid hp
  have HK := hid hok
  clear hp hok
  go_enter Tryz.func34, Tryz.ntmps34
  go_wp2_with fail
  go_loopw [10] (fun i wr => ∃ k : Nat, k ≤ L.length ∧ i = .int .i64 k ∧ spErr none L = spErr (prevS L k) (L.drop k) ∧ Below w.heap.size w wr) (fun i _ => L.length - (intOf i).toNat)
  case atStart => exact ⟨0, by omega, rfl, rfl, Below.refl _ _⟩
  case round =>
    obtain ⟨k, hk, rfl, herr, hbl⟩ := hrel
    have HR := hid herr
    have HB := hid hbl
    have hzr : w.heap.size ≤ wr.heap.size := hbl.size
    clear herr hbl
    by_cases hlt : k < L.length
    · rcases HP.out with h0 | ⟨b, rfl, hat⟩
      · rw [h0] at hlt; simp at hlt
      have HA := hid (hat.ext (S := fun _ => False) (Ext.of_below HB.out) id)
      obtain ⟨c0, c1, c2⟩ := HA.out k _ (List.getElem?_eq_getElem hlt)
      have HD := hid (List.drop_eq_getElem_cons hlt)
      have HKx := hid (HK.out _ (List.getElem_mem hlt))
      have HX := hid (List.getElem?_eq_getElem hlt)
      generalize L[k] = x at c0 c1 c2 HD HKx HX
      go_wp2_with fail
      have hsz : x.1.size ≤ 9223372036854775807 := by have := HKx.out.1; omega
      have hS : SpOk x := HKx.out
      have n0 : -1099511627776 ≤ x.2.1 ∧ x.2.1 ≤ 1099511627776 := hS.2.1
      have n1 : -1099511627776 ≤ x.2.2 ∧ x.2.2 ≤ 1099511627776 := hS.2.2
      clear hS
      have HR2 := hid (show spErr none L = spErr (prevS L k) (x :: L.drop (k + 1)) by rw [HR.out, ← HD.out])
      clear HR
      by_cases hnm : nameB x.1.data.toList = true
      case neg =>
        have hnm' : nameB x.1.data.toList = false := by simpa using hnm
        refine (q_Name x.1 false hnm' _ hsz).mono ?_
        rintro e w2 ⟨rfl, hb2⟩
        have HB2 := hid ((HB.out.alloc hzr _).trans (hb2.mono (by simp; omega)))
        go_wp2_with fail
        go_ret
        exact ⟨ret_int (by rw [HR2.out, spErr, if_pos hnm']), HB2.out⟩
      refine (q_Name x.1 true hnm _ hsz).mono ?_
      rintro e w2 ⟨rfl, hb2⟩
      have HB2 := hid ((HB.out.alloc hzr _).trans (hb2.mono (by simp; omega)))
      have hblk := (Ext.of_below (S := fun _ => False) hb2).heap (heap_new wr (.cells #[.string x.1, .int .i64 x.2.1, .int .i64 x.2.2] 114)) id
      have HN := hid hnm
      clear hb2 hnm
      have d0 : w2.cell? ⟨wr.heap.size, 0, none⟩ = some (.string x.1) := by rw [cell_of_row _ _ _ _ _ _ hblk]; rfl
      have d1 : w2.cell? ⟨wr.heap.size, 1, none⟩ = some (.int .i64 x.2.1) := by rw [cell_of_row _ _ _ _ _ _ hblk]; rfl
      have d2 : w2.cell? ⟨wr.heap.size, 2, none⟩ = some (.int .i64 x.2.2) := by rw [cell_of_row _ _ _ _ _ _ hblk]; rfl
      clear hblk
      by_cases h1 : decide (0 ≤ x.2.1 ∧ x.2.1 ≤ 999) = true
      case neg =>
        have h1' : decide (0 ≤ x.2.1 ∧ x.2.1 ≤ 999) = false := by simpa using h1
        go_wp2_with fail
        refine (r_in_b _ _ _ false h1' _).mono ?_
        rintro e w3 ⟨rfl, rfl⟩
        go_wp2_with fail
        go_ret
        exact ⟨ret_int (by rw [HR2.out, spErr, if_neg (by simp [HN.out]), if_pos (.inl (by simpa using h1))]), HB2.out⟩
      have H1 := hid h1
      go_wp2_with fail
      refine (r_in_b _ _ _ true h1 _).mono ?_
      rintro e w3 ⟨rfl, rfl⟩
      clear h1
      go_wp2_with fail
      by_cases h2 : decide (x.2.1 ≤ x.2.2 ∧ x.2.2 ≤ 999) = true
      case neg =>
        have h2' : decide (x.2.1 ≤ x.2.2 ∧ x.2.2 ≤ 999) = false := by simpa using h2
        refine (r_in_b _ _ _ false h2' _).mono ?_
        rintro e w3 ⟨rfl, rfl⟩
        go_wp2_with fail
        go_ret
        exact ⟨ret_int (by rw [HR2.out, spErr, if_neg (by simp [HN.out]), if_pos (.inr (by simpa using h2))]), HB2.out⟩
      have H2 := hid h2
      refine (r_in_b _ _ _ true h2 _).mono ?_
      rintro e w3 ⟨rfl, rfl⟩
      clear h2
      by_cases hk0 : k = 0
      · subst hk0
        go_wp2_with fail
        go_quiet (fail)
        go_wp2_with fail
        go_roundw
        case rel =>
          exact ⟨1, by omega, by go_num, by rw [HR2.out, spErr, if_neg (by simp [HN.out]), if_neg (by have a1 := H1.out; have a2 := H2.out; simp at a1 a2; omega), if_neg (by simp [prevS])]; simp only [prevS]; rw [HX.out]; rfl, bdrewN' HB2.out _⟩
        case measure => simp [intOf]; omega
      · obtain ⟨j, rfl⟩ : ∃ j, k = j + 1 := ⟨k - 1, by omega⟩
        have hj : j < L.length := by omega
        have HA2 := hid (hat.ext (S := fun _ => False) (Ext.of_below HB2.out) id)
        have e0 := (HA2.out j _ (List.getElem?_eq_getElem hj)).1
        have hpj : Hid (prevS L (j + 1) = some L[j].1) := hid (by simp [prevS, List.getElem?_eq_getElem hj])
        generalize L[j] = y at e0 hpj
        have hjw : IntKind.i64.wrap ((j : Int) + 1 - 1) = j := by rw [show (j : Int) + 1 - 1 = j by omega]; exact IntWalk.i64_in _ (by omega)
        go_wp2_with fail
        go_quiet (fail)
        have hc : Hid ((Op.bytesLess x.1.toList y.1.toList || x.1.toList == y.1.toList) = true ∨ (Op.bytesLess x.1.toList y.1.toList || x.1.toList == y.1.toList) = false) := hid (by cases (Op.bytesLess x.1.toList y.1.toList || x.1.toList == y.1.toList) <;> simp)
        generalize hcv : (Op.bytesLess x.1.toList y.1.toList || x.1.toList == y.1.toList) = cc at hc ⊢
        have HCV := hid hcv
        clear hcv
        cases cc
        · go_wp2_with fail
          go_roundw
          case rel =>
            exact ⟨j + 1 + 1, by omega, by go_num, by rw [HR2.out, spErr, if_neg (by simp [HN.out]), if_neg (by have a1 := H1.out; have a2 := H2.out; simp at a1 a2; omega), hpj.out, Option.elim, HCV.out, if_neg (by simp)]; simp only [prevS]; rw [HX.out]; rfl, bdrewN' HB2.out _⟩
          case measure => simp [intOf]; omega
        · go_wp2_with fail
          go_ret
          exact ⟨ret_int (by rw [HR2.out, spErr, if_neg (by simp [HN.out]), if_neg (by have a1 := H1.out; have a2 := H2.out; simp at a1 a2; omega), hpj.out, Option.elim, HCV.out, if_pos rfl]), bdrewN' HB2.out _⟩
    · go_wp2_with fail
      go_ret
      exact ⟨ret_int (by rw [HR.out, List.drop_eq_nil_of_le (by omega)]; rfl), HB.out⟩
end Go.Proofs.YtckbhlnncokigaaGreat
