/- Texts joined: VBounds, RBndO1. -/
import Derived.Test.YtckbhlnncokigaaGreatJB12
import Derived.Test.YtckbhlnncokigaaGreatJB13
import Derived.Test.YtckbhlnncokigaaGreatJB14
import Derived.Test.YtckbhlnncokigaaGreatJB15
import Derived.Test.YtckbhlnncokigaaGreatJB16
import Derived.Test.YtckbhlnncokigaaGreatJB18
import Derived.Test.YtckbhlnncokigaaGreatJB19
import Derived.Test.YtckbhlnncokigaaGreatJB24
import Derived.Test.YtckbhlnncokigaaGreatJB11
/- Bounds, the program's. -/
namespace Go.Proofs.YtckbhlnncokigaaGreat
open Go.RowKit

theorem v_rangeOf (L : List (ByteArray × Int × Int)) (lp : Option Addr) (lc lb : Nat) (hl4 : L.length ≤ 4) (hlc : L.length ≤ lc) (hcm : lc ≤ maxLen) (hri : Rising (spKeys L)) (hg : SpGood L) (m : Nat) : ∀ (op n : Int) (s : ByteArray) (a : F) (p : Option Addr) (c : Nat) (fa : List Nat) (w : World), a.size < m → RdP w a p fa → a.len ≤ c → c ≤ 9223372036854775807 → (F.cons op n s a .nil).Fits → (F.cons op n s a .nil).Small → Asks w lb L lp lc →
      Calls Tryz.prog 80 #[.agg #[.int .i64 op, .int .i64 n, .string s, .slice p a.len c], .func (.func 142) #[] #[.pointer (some ⟨lb, 0, none⟩)]] w fun e w' => e = .returned (.agg #[.int .i64 (bndE L op n s a).1, .int .i64 (bndE L op n s a).2]) ∧ Below w.heap.size w w' := by
  induction m with
  | zero => intro op n s a p c fa w h; omega
  | succ m ih =>
    intro op n s a p c fa w h h1 h2 h3 h4 h5 h6
    obtain ⟨⟨⟨k1, k2⟩, _, _⟩, _⟩ := id h5
    rcases (show op = 1 ∨ op = 2 ∨ op = 3 ∨ op = 4 ∨ op = 5 ∨ op = 6 ∨ op = 7 ∨ op = 8 ∨ op = 9 by omega) with rfl | rfl | rfl | rfl | rfl | rfl | rfl | rfl | rfl
    · exact v_rng1 m L lp lc lb ih 1 n s a p c fa w (by omega) h1 h2 h3 h4 h5 h6 hg (hid rfl)
    · exact v_rng2 m L lp lc lb ih 2 n s a p c fa w (by omega) h1 h2 h3 h4 h5 h6 hg (hid rfl) hl4 hlc hcm hri
    · exact v_rng3 m L lp lc lb ih 3 n s a p c fa w (by omega) h1 h2 h3 h4 h5 h6 hg (hid rfl)
    · exact v_rng4 m L lp lc lb ih 4 n s a p c fa w (by omega) h1 h2 h3 h4 h5 h6 hg (hid rfl)
    · exact v_rng5 m L lp lc lb ih 5 n s a p c fa w (by omega) h1 h2 h3 h4 h5 h6 hg (hid rfl)
    · exact v_rng6 m L lp lc lb ih 6 n s a p c fa w (by omega) h1 h2 h3 h4 h5 h6 hg (hid rfl)
    · exact v_rng7 m L lp lc lb ih 7 n s a p c fa w (by omega) h1 h2 h3 h4 h5 h6 hg (hid rfl)
    · exact v_rng8 m L lp lc lb ih 8 n s a p c fa w (by omega) h1 h2 h3 h4 h5 h6 hg (hid rfl)
    · exact v_rng9 m L lp lc lb ih 9 n s a p c fa w (by omega) h1 h2 h3 h4 h5 h6 hg (hid rfl)

/-- Spans without an error rise. -/
theorem rising_of_spErr : ∀ (p : Option ByteArray) (L : List (ByteArray × Int × Int)), spErr p L = 0 → Rising (spKeys L) ∧ (∀ y, p = some y → ∀ x ∈ L, y.data.toList < x.1.data.toList)
  | p, [], _ => ⟨trivial, fun y _ x hx => by simp at hx⟩
  | p, x :: r, h => by
    rw [spErr_cons] at h
    split at h
    · cases h
    split at h
    · cases h
    split at h
    · cases h
    rename_i h1 h2 h3
    obtain ⟨g1, g2⟩ := rising_of_spErr _ r h
    refine ⟨⟨fun z hz => ?_, g1⟩, fun y hy z hz => ?_⟩
    · simp only [List.mem_map] at hz
      obtain ⟨u, hu, rfl⟩ := hz
      exact g2 x.1 rfl u hu
    · subst hy
      have hlt : y.data.toList < x.1.data.toList := by
        simp only [Option.elim, Bool.or_eq_true, not_or] at h3
        obtain ⟨h4, h5⟩ := h3
        rw [bl_lt, Lib.toList_data, Lib.toList_data] at h4
        rw [Lib.toList_data, Lib.toList_data] at h5
        have h6 : ¬ x.1.data.toList < y.data.toList := by simpa using h4
        have h7 : x.1.data.toList ≠ y.data.toList := by simpa using h5
        rcases Std.lt_trichotomy (α := List UInt8) y.data.toList x.1.data.toList with k | k | k
        · exact k
        · exact absurd k.symm h7
        · exact absurd k h6
      rcases List.mem_cons.1 hz with rfl | hz
      · exact hlt
      · exact List.lt_trans hlt (g2 x.1 rfl z hz)

theorem four_ext {a w : World} {b : Nat} {v0 v1 v2 v3 : Value} (h : a.cell? ⟨b, 0, none⟩ = some v0 ∧ a.cell? ⟨b, 1, none⟩ = some v1 ∧ a.cell? ⟨b, 2, none⟩ = some v2 ∧ a.cell? ⟨b, 3, none⟩ = some v3) (e : Ext (fun _ => False) a w) : w.cell? ⟨b, 0, none⟩ = some v0 ∧ w.cell? ⟨b, 1, none⟩ = some v1 ∧ w.cell? ⟨b, 2, none⟩ = some v2 ∧ w.cell? ⟨b, 3, none⟩ = some v3 :=
  ⟨e.cell_some h.1 id, e.cell_some h.2.1 id, e.cell_some h.2.2.1 id, e.cell_some h.2.2.2 id⟩
theorem set2_ext {S : Nat → Prop} {a w : World} {b : Nat} {v0 v1 : Value} (h : Ext S a w) (hb : a.heap.size ≤ b) : Ext S a ((w.setCell ⟨b, 0, none⟩ v0).setCell ⟨b, 1, none⟩ v1) := (h.setCell (p := ⟨b, 0, none⟩) (.inr hb) v0).setCell (p := ⟨b, 1, none⟩) (.inr hb) v1
theorem ret_three {a b c : Int} {t : Int × Int × Int} (h : (a, b, c) = t) : Ending.returned (.tuple #[.int .i64 a, .int .i64 b, .int .i64 c]) = .returned (.tuple #[.int .i64 t.1, .int .i64 t.2.1, .int .i64 t.2.2]) := by cases h; rfl
set_option maxRecDepth 100000 in
set_option maxHeartbeats 4000000 in
theorem v_Bounds (op n : Int) (s : ByteArray) (a : F) (p : Option Addr) (c : Nat) (fa : List Nat) (L : List (ByteArray × Int × Int)) (lp : Option Addr) (lc : Nat) (w : World) (h1 : RdP w a p fa) (h2 : a.len ≤ c) (h3 : c ≤ 9223372036854775807) (h4 : (F.cons op n s a .nil).Fits) (h5 : SpP w L lp) (h6 : L.length ≤ 3) (h7 : L.length ≤ lc) (h8 : lc ≤ maxLen) (h9 : ∀ x ∈ L, SpOk x) :
      Calls Tryz.prog 33 #[.agg #[.int .i64 op, .int .i64 n, .string s, .slice p a.len c], .slice lp L.length lc] w fun e w' => e = .returned (.tuple #[.int .i64 (bndAns L op n s a).1, .int .i64 (bndAns L op n s a).2.1, .int .i64 (bndAns L op n s a).2.2]) ∧ Below w.heap.size w w' := by
  have E1 := (Ext.refl (S := fun _ => False) w).alloc (.cells #[.int .i64 op, .int .i64 n, .string s, .slice p a.len c] 28)
  have HX := hid (And.intro (h1.ext E1 (fun _ _ => id)) (And.intro (h5.ext E1 (fun _ _ => id)) (And.intro h4 h9)))
  have HN := hid (heap_new w (.cells #[.int .i64 op, .int .i64 n, .string s, .slice p a.len c] 28))
  have HB := hid (alloc_below w (.cells #[.int .i64 op, .int .i64 n, .string s, .slice p a.len c] 28))
  have hz1 : w.heap.size + 1 = (w.alloc (.cells #[.int .i64 op, .int .i64 n, .string s, .slice p a.len c] 28)).heap.size := by simp
  clear h1 h5 h4 h9 E1
  go_enter Tryz.func33, Tryz.ntmps33
  go_wp2_with fail
  generalize w.alloc (.cells #[.int .i64 op, .int .i64 n, .string s, .slice p a.len c] 28) = w1 at *
  refine (p_CheckExpr op n s a p c fa _ HX.out.1 h2 h3 HX.out.2.2.1).mono ?_
  rintro e w2 ⟨rfl, hb2⟩
  have E2 := Ext.of_below (S := fun _ => False) hb2
  have HX2 := hid (And.intro (HX.out.1.ext E2 (fun _ _ => id)) (And.intro (HX.out.2.1.ext E2 (fun _ _ => id)) HX.out.2.2))
  have HN2 := hid (E2.heap HN.out id)
  have HB2 := hid (below_ext HB.out E2 (by omega))
  have hz2 : w.heap.size + 1 ≤ w2.heap.size := by have := E2.size; omega
  clear HX HN HB E2 hb2
  generalize hge : errE op n s a 1 = er
  have GE := hid hge
  clear hge
  by_cases he : er = 0
  case neg =>
    have hne : (er != 0) = true := by simpa using he
    have HA := hid (show bndAns L op n s a = (0, 0, er) by rw [bndAns, if_pos (by rw [GE.out]; exact he), GE.out])
    clear he
    go_wp2_with fail
    go_ret3
    exact ⟨ret_three (a := 0) (b := 0) (c := er) HA.out.symm, HB2.out⟩
  subst he
  go_wp2_with fail
  refine (v_checkSpans L lp lc _ HX2.out.2.1 h6 h7 h8 HX2.out.2.2.2).mono ?_
  rintro e w3 ⟨rfl, hb3⟩
  have E3 := Ext.of_below (S := fun _ => False) hb3
  have HX3 := hid (And.intro (HX2.out.1.ext E3 (fun _ _ => id)) (And.intro (HX2.out.2.1.ext E3 (fun _ _ => id)) HX2.out.2.2))
  have HN3 := hid (E3.heap HN2.out id)
  have HB3 := hid (below_ext HB2.out E3 (by omega))
  have hz3 : w.heap.size + 1 ≤ w3.heap.size := by have := E3.size; omega
  clear HX2 HN2 HB2 E3 hb3
  generalize hgs : spErr none L = es
  have GS := hid hgs
  clear hgs
  by_cases he : es = 0
  case neg =>
    have hne : (es != 0) = true := by simpa using he
    have HA := hid (show bndAns L op n s a = (0, 0, es) by rw [bndAns, if_neg (by rw [GE.out]; simp), if_pos (by rw [GS.out]; exact he), GS.out])
    clear he
    go_wp2_with fail
    go_ret3
    exact ⟨ret_three (a := 0) (b := 0) (c := es) HA.out.symm, HB3.out⟩
  subst he
  have HA := hid (show bndAns L op n s a = ((bndE L op n s a).1, (bndE L op n s a).2, 0) by rw [bndAns, if_neg (by rw [GE.out]; simp), if_neg (by rw [GS.out]; simp)])
  obtain ⟨⟨q0, q1, q2, q3⟩, _⟩ := blk4 HN3.out
  have HQ := hid (And.intro q0 (And.intro q1 (And.intro q2 q3)))
  have hl4 : L.length ≤ 4 := by omega
  have HRI := hid (rising_of_spErr _ _ GS.out).1
  have HGD := hid (good_of_spErr _ _ GS.out)
  have HSM := hid (small_of_errE GE.out)
  have ED := hid ((Ext.refl (S := fun _ => False) w3).drew)
  have HXd := hid (And.intro (HX3.out.2.1.ext ED.out (fun _ _ => id)) (HX3.out.1.ext ED.out (fun _ _ => id)))
  have EC := hid (((Ext.refl (S := fun _ => False) w3).alloc (.cells #[.int .i64 0, .int .i64 0] 117)).drew)
  have HXc := hid (And.intro (HX3.out.2.1.ext EC.out (fun _ _ => id)) (HX3.out.1.ext EC.out (fun _ _ => id)))
  have HNc := hid (show ((w3.alloc (.cells #[.int .i64 0, .int .i64 0] 117)).drew).heap[w3.heap.size]? = some (.cells #[.int .i64 0, .int .i64 0] 117) from heap_new w3 (.cells #[.int .i64 0, .int .i64 0] 117))
  go_wp2_with fail
  go_region_held3 (fun w' => w'.cell? ⟨w.heap.size, 0, none⟩ = some (.int .i64 op) ∧ w'.cell? ⟨w.heap.size, 1, none⟩ = some (.int .i64 n) ∧ w'.cell? ⟨w.heap.size, 2, none⟩ = some (.string s) ∧ w'.cell? ⟨w.heap.size, 3, none⟩ = some (.slice p a.len c))
    (first
      | (with_reducible exact four_ext HQ.out E5.out)
      | (with_reducible exact four_ext HQ.out (E5.out.alloc _))
      | (with_reducible exact four_ext HQ.out E4.out)
      | (with_reducible exact four_ext HQ.out (E4.out.alloc _))
      | (with_reducible exact four_ext HQ.out EC.out)
      | (with_reducible exact four_ext HQ.out ED.out)
      | (with_reducible exact four_ext HQ.out (set2_ext E5.out (Nat.le_refl _)))
      | (with_reducible exact four_ext HQ.out (set2_ext E5.out HSZ.out))
      | (go_keep; done))
    (first
      | (go_at_call 81; (with_reducible refine (v_spanRanges L lp lc _ HXd.out.1).mono ?_); rintro e w4 ⟨rfl, hask, hb4⟩; have HA1 := ED; have E4 := hid (ED.out.trans (Ext.of_below (S := fun _ => False) hb4)); have HSZ := hid E4.out.size; have HK4 := hid (show Asks w4 w3.heap.size L lp lc from hask); clear hask hb4)
      | (go_at_call 81; (with_reducible refine (v_spanRanges L lp lc _ HXc.out.1).mono ?_); rintro e w4 ⟨rfl, hask, hb4⟩; have HC1 := hid ((Ext.of_below (S := fun _ => False) hb4).heap HNc.out id); have E4 := hid (EC.out.trans (Ext.of_below (S := fun _ => False) hb4)); have HK4 := hid (show Asks w4 (w3.heap.size + 1) L lp lc by simpa using hask); clear hask hb4)
      | (go_at_call 80; have _t := HA1; (with_reducible refine (v_rangeOf L lp lc _ hl4 h7 h8 HRI.out HGD.out (a.size + 1) op n s a p c fa _ (Nat.lt_succ_self _) (HX3.out.1.ext E4.out (fun _ _ => id)) h2 h3 HX3.out.2.2.1 HSM.out HK4.out).mono ?_); rintro e w5 ⟨rfl, hb5⟩; have E5 := hid (E4.out.trans (Ext.of_below (S := fun _ => False) hb5)); clear hb5)
      | (go_at_call 80; have _t := HA1; (with_reducible refine (v_rangeOf L lp lc _ hl4 h7 h8 HRI.out HGD.out (a.size + 1) op n s a p c fa (w4.alloc (.cells #[.int .i64 0, .int .i64 0] 117)) (Nat.lt_succ_self _) (HX3.out.1.ext (E4.out.alloc (.cells #[.int .i64 0, .int .i64 0] 117)) (fun _ _ => id)) h2 h3 HX3.out.2.2.1 HSM.out (HK4.out.ext ((Ext.refl _).alloc (.cells #[.int .i64 0, .int .i64 0] 117)))).mono ?_); rintro e w5 ⟨rfl, hb5⟩; obtain ⟨⟨z0, z1⟩, y0, y1⟩ := blk2 ((Ext.of_below (S := fun _ => False) hb5).heap (heap_new w4 (.cells #[.int .i64 0, .int .i64 0] 117)) id); have E5 := hid ((E4.out.alloc (.cells #[.int .i64 0, .int .i64 0] 117)).trans (Ext.of_below (S := fun _ => False) hb5)); clear hb5)
      | (go_at_call 80; (with_reducible refine (v_rangeOf L lp lc _ hl4 h7 h8 HRI.out HGD.out (a.size + 1) op n s a p c fa _ (Nat.lt_succ_self _) (HX3.out.1.ext E4.out (fun _ _ => id)) h2 h3 HX3.out.2.2.1 HSM.out HK4.out).mono ?_); rintro e w5 ⟨rfl, hb5⟩; obtain ⟨⟨z0, z1⟩, y0, y1⟩ := blk2 ((Ext.of_below (S := fun _ => False) hb5).heap HC1.out id); have E5 := hid (E4.out.trans (Ext.of_below (S := fun _ => False) hb5)); clear hb5))
  all_goals
    generalize hb1 : (bndE L op n s a).1 = b1
    generalize hb2 : (bndE L op n s a).2 = b2
    have HA' := hid (show bndAns L op n s a = (b1, b2, 0) by rw [HA.out, hb1, hb2])
    clear hb1 hb2
    go_wp2_with fail
    go_quiet (fail)
    go_wp2_with fail
    go_ret3
    exact ⟨ret_three (a := b1) (b := b2) (c := 0) HA'.out.symm, below_ext HB3.out (by first | (with_reducible exact (E5.out.alloc _).drewN _) | (with_reducible exact (set2_ext E5.out HSZ.out).drewN _) | (with_reducible exact (set2_ext E5.out (Nat.le_refl _)).drewN _)) (by omega)⟩
end Go.Proofs.YtckbhlnncokigaaGreat
/- boundsOf, numbers and variables. -/
namespace Go.Proofs.YtckbhlnncokigaaGreat
open Go.RowKit

set_option maxRecDepth 100000 in
set_option maxHeartbeats 4000000 in
theorem r_bounds1 (L : List (ByteArray × Int × Int)) (lp : Option Addr) (lc : Nat)
    (n : Int) (s : ByteArray) (a : F) (p : Option Addr) (c : Nat) (w : World) :
    Calls Tryz.prog 83 #[.agg #[.int .i64 1, .int .i64 n, .string s, .slice p a.len c], .slice lp L.length lc] w fun e w' => e = .returned (.agg #[.int .i64 (bndE L 1 n s a).1, .int .i64 (bndE L 1 n s a).2]) ∧ Below w.heap.size w w' := by
  have HE : Hid (bndE L 1 n s a = (n, n)) := hid (by rw [bndE, if_pos rfl])
  have HB := hid ((alloc_below w (.cells #[.int .i64 1, .int .i64 n, .string s, .slice p a.len c] 28)).trans ((alloc_below _ (.cells #[.int .i64 n, .int .i64 n] 122)).mono (by simp)))
  go_enter Tryz.func83, Tryz.ntmps83
  go_wp2_with fail
  go_returns
  exact ⟨by rw [HE.out], HB.out⟩

set_option maxRecDepth 100000 in
set_option maxHeartbeats 4000000 in
theorem r_bounds2 (L : List (ByteArray × Int × Int)) (lp : Option Addr) (lc : Nat)
    (n : Int) (s : ByteArray) (a : F) (p : Option Addr) (c : Nat) (w : World) (hl : SpP w L lp) (hlc : L.length ≤ lc) (hlm : lc ≤ maxLen) :
    Calls Tryz.prog 83 #[.agg #[.int .i64 2, .int .i64 n, .string s, .slice p a.len c], .slice lp L.length lc] w fun e w' => e = .returned (.agg #[.int .i64 (bndE L 2 n s a).1, .int .i64 (bndE L 2 n s a).2]) ∧ Below w.heap.size w w' := by
  have HE : Hid (bndE L 2 n s a = look s L) := hid (by rw [bndE, if_neg (by decide), if_pos rfl])
  have HL := hid hl
  clear hl
  have hmf : ∀ (fn : Fn) (first cap : Array Value) (w : World), (Instr.makeFunc fn first cap).run Tryz.prog w = .ok (.func fn first cap) w := fun _ _ _ _ => rfl
  have hw0 := heap_new w (.cells #[.int .i64 2, .int .i64 n, .string s, .slice p a.len c] 28)
  have hw1 := heap_new (w.alloc (.cells #[.int .i64 2, .int .i64 n, .string s, .slice p a.len c] 28)) (.cells #[.int .i64 0, .int .i64 0] 122)
  have E0 := ((Ext.refl (S := fun _ => False) w).alloc (.cells #[.int .i64 2, .int .i64 n, .string s, .slice p a.len c] 28)).alloc (.cells #[.int .i64 0, .int .i64 0] 122)
  have HW := hid (And.intro hw0 (And.intro hw1 E0))
  clear hw0 hw1 E0
  go_enter Tryz.func83, Tryz.ntmps83
  go_wp2_with fail
  have hz0 : ((w.alloc (.cells #[.int .i64 2, .int .i64 n, .string s, .slice p a.len c] 28)).alloc (.cells #[.int .i64 0, .int .i64 0] 122)).heap.size = w.heap.size + 2 := by simp
  have hW := HW.out
  have e1 : (w.alloc (.cells #[.int .i64 2, .int .i64 n, .string s, .slice p a.len c] 28)).heap.size = w.heap.size + 1 := by simp
  rw [e1] at hW
  have h0 := ((Ext.refl (S := fun _ => False) (w.alloc (.cells #[.int .i64 2, .int .i64 n, .string s, .slice p a.len c] 28))).alloc (.cells #[.int .i64 0, .int .i64 0] 122)).heap hW.1 id
  have h1 := hW.2.1
  have E1 := hW.2.2
  clear hW HW e1
  generalize ((w.alloc (.cells #[.int .i64 2, .int .i64 n, .string s, .slice p a.len c] 28)).alloc (.cells #[.int .i64 0, .int .i64 0] 122)) = w1 at *
  obtain ⟨⟨q0, q1, q2, q3⟩, _⟩ := blk4 h0
  refine (r_idx L lp lc s w.heap.size _ q2 (HL.out.ext E1 (fun _ _ => id)) hlc hlm).mono ?_
  rintro e w2 ⟨⟨r, rfl, hr⟩, hb2⟩
  have HB2 := hid (below_ext (below_ext (Below.refl _ w) E1 (Nat.le_refl _)) (Ext.of_below hb2) (by omega))
  have E2 := E1.trans (Ext.of_below hb2)
  obtain ⟨⟨u0, u1⟩, t0, t1⟩ := blk2 ((Ext.of_below (S := fun _ => False) hb2).heap h1 id)
  have hz2 : w.heap.size + 2 ≤ w2.heap.size := by have := hb2.size; omega
  have hL2 := HL.out.ext E2 (fun _ _ => id)
  have HH2 := hid ((Ext.of_below (S := fun _ => False) hb2).heap h1 id)
  clear h0 h1 E1 hb2 q0 q1 q2 q3 E2
  rcases hr with ⟨rfl, hlk⟩ | ⟨k, x, rfl, hx, hlk⟩
  · have HK := hid hlk
    clear hlk hL2
    go_wp2_with fail
    refine (r_anything _).mono ?_
    rintro e w5 ⟨rfl, hb5⟩
    obtain ⟨⟨r0', r1'⟩, t0', t1'⟩ := blk2 ((Ext.of_below (S := fun _ => False) hb5).heap HH2.out id)
    have HB5 := hid (below_ext HB2.out (Ext.of_below hb5) (by omega))
    clear hb5 u0 u1 t0 t1
    go_wp2_with fail
    refine bodyPost_ret (v := .agg #[.int .i64 0, .int .i64 999]) (by simp [results, Tryz.results83, go_sem, r0', r1']) rfl ⟨by rw [HE.out, HK.out], below_set2 HB5.out (by omega) _ _⟩
  · have hkl : (k : Int) < L.length := by have := (List.getElem?_eq_some_iff.1 hx).1; omega
    have HK := hid hlk
    rcases hL2 with h0 | ⟨b, rfl, hat⟩
    · subst h0; simp at hx
    obtain ⟨c0, c1, c2⟩ := hat k x hx
    have hcc : (lc : Int) ≤ 9223372036854775807 := by unfold maxLen at hlm; omega
    have hlcc : (L.length : Int) ≤ lc := by omega
    clear hlk hx hat
    go_wp2_with fail
    refine wp_region_still_tail 10 (by kernel_rfl) (by kernel_rfl) ?_
    simp only [List.take_succ_cons, List.take_zero, List.drop_succ_cons, List.drop_zero]
    change wpStill _ _ w2.drew (fun a' => wpList _ _ _ _ a' w2.drew) _ _
    repeat still_step
    refine wpStill_nil ?_
    go_wp2_with fail
    refine bodyPost_ret (v := .agg #[.int .i64 x.2.1, .int .i64 x.2.2]) (by simp [results, Tryz.results83, go_sem, u0, u1]) rfl ⟨by rw [HE.out, HK.out], below_set2 (bdrew HB2.out) (by omega) _ _⟩
end Go.Proofs.YtckbhlnncokigaaGreat
