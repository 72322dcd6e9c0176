/- Texts joined: VBounds, VExec, EqW. -/
import Derived.Test.YtckbhlnncokigaaGreatJC41
import Derived.Test.YtckbhlnncokigaaGreatJC42
import Derived.Test.YtckbhlnncokigaaGreatJC43
import Derived.Test.YtckbhlnncokigaaGreatJC37
import Derived.Test.YtckbhlnncokigaaGreatJC20
import Derived.Test.YtckbhlnncokigaaGreatJC12
import Derived.Test.YtckbhlnncokigaaGreatJC40
import Derived.Test.YtckbhlnncokigaaGreatJC38
import Derived.Test.YtckbhlnncokigaaGreatJC17
/- Bounds, the program's. -/
namespace Go.Proofs.YtckbhlnncokigaaGreat
open Go.RowKit

theorem v_rangeOf (L : List (ByteArray × Int × Int)) (lp : Option Addr) (lc lb : Nat) (hl4 : L.length ≤ 4) (hlc : L.length ≤ lc) (hcm : lc ≤ maxLen) (hri : Rising (spKeys L)) (hg : SpGood L) (m : Nat) : ∀ (op n : Int) (s : ByteArray) (a : F) (p : Option Addr) (c : Nat) (fa : List Nat) (w : World), a.size < m → RdP w a p fa → a.len ≤ c → c ≤ 9223372036854775807 → (F.cons op n s a .nil).Fits → (F.cons op n s a .nil).Small → Asks w lb L lp lc →
      Calls Tryz.prog 80 #[.agg #[.int .i64 op, .int .i64 n, .string s, .slice p a.len c], .func (.func 142) #[] #[.pointer (some ⟨lb, 0, none⟩)]] w fun e w' => e = .returned (.agg #[.int .i64 (bndE L op n s a).1, .int .i64 (bndE L op n s a).2]) ∧ Below w.heap.size w w' := by
  induction m with
  | zero => intro op n s a p c fa w h; omega
  | succ m ih =>
    intro op n s a p c fa w h h1 h2 h3 h4 h5 h6
    obtain ⟨⟨⟨k1, k2⟩, _, _⟩, _⟩ := id h5
    rcases (show op = 1 ∨ op = 2 ∨ op = 3 ∨ op = 4 ∨ op = 5 ∨ op = 6 ∨ op = 7 ∨ op = 8 ∨ op = 9 by omega) with rfl | rfl | rfl | rfl | rfl | rfl | rfl | rfl | rfl
    · exact v_rng1 m L lp lc lb ih 1 n s a p c fa w (by omega) h1 h2 h3 h4 h5 h6 hg (hid rfl)
    · exact v_rng2 m L lp lc lb ih 2 n s a p c fa w (by omega) h1 h2 h3 h4 h5 h6 hg (hid rfl) hl4 hlc hcm hri
    · exact v_rng3 m L lp lc lb ih 3 n s a p c fa w (by omega) h1 h2 h3 h4 h5 h6 hg (hid rfl)
    · exact v_rng4 m L lp lc lb ih 4 n s a p c fa w (by omega) h1 h2 h3 h4 h5 h6 hg (hid rfl)
    · exact v_rng5 m L lp lc lb ih 5 n s a p c fa w (by omega) h1 h2 h3 h4 h5 h6 hg (hid rfl)
    · exact v_rng6 m L lp lc lb ih 6 n s a p c fa w (by omega) h1 h2 h3 h4 h5 h6 hg (hid rfl)
    · exact v_rng7 m L lp lc lb ih 7 n s a p c fa w (by omega) h1 h2 h3 h4 h5 h6 hg (hid rfl)
    · exact v_rng8 m L lp lc lb ih 8 n s a p c fa w (by omega) h1 h2 h3 h4 h5 h6 hg (hid rfl)
    · exact v_rng9 m L lp lc lb ih 9 n s a p c fa w (by omega) h1 h2 h3 h4 h5 h6 hg (hid rfl)

/-- Spans without an error rise. -/
theorem rising_of_spErr : ∀ (p : Option ByteArray) (L : List (ByteArray × Int × Int)), spErr p L = 0 → Rising (spKeys L) ∧ (∀ y, p = some y → ∀ x ∈ L, y.data.toList < x.1.data.toList)
  | p, [], _ => ⟨trivial, fun y _ x hx => by simp at hx⟩
  | p, x :: r, h => by
    rw [spErr_cons] at h
    split at h
    · cases h
    split at h
    · cases h
    split at h
    · cases h
    rename_i h1 h2 h3
    obtain ⟨g1, g2⟩ := rising_of_spErr _ r h
    refine ⟨⟨fun z hz => ?_, g1⟩, fun y hy z hz => ?_⟩
    · simp only [List.mem_map] at hz
      obtain ⟨u, hu, rfl⟩ := hz
      exact g2 x.1 rfl u hu
    · subst hy
      have hlt : y.data.toList < x.1.data.toList := by
        simp only [Option.elim, Bool.or_eq_true, not_or] at h3
        obtain ⟨h4, h5⟩ := h3
        rw [bl_lt, Lib.toList_data, Lib.toList_data] at h4
        rw [Lib.toList_data, Lib.toList_data] at h5
        have h6 : ¬ x.1.data.toList < y.data.toList := by simpa using h4
        have h7 : x.1.data.toList ≠ y.data.toList := by simpa using h5
        rcases Std.lt_trichotomy (α := List UInt8) y.data.toList x.1.data.toList with k | k | k
        · exact k
        · exact absurd k.symm h7
        · exact absurd k h6
      rcases List.mem_cons.1 hz with rfl | hz
      · exact hlt
      · exact List.lt_trans hlt (g2 x.1 rfl z hz)

theorem four_ext {a w : World} {b : Nat} {v0 v1 v2 v3 : Value} (h : a.cell? ⟨b, 0, none⟩ = some v0 ∧ a.cell? ⟨b, 1, none⟩ = some v1 ∧ a.cell? ⟨b, 2, none⟩ = some v2 ∧ a.cell? ⟨b, 3, none⟩ = some v3) (e : Ext (fun _ => False) a w) : w.cell? ⟨b, 0, none⟩ = some v0 ∧ w.cell? ⟨b, 1, none⟩ = some v1 ∧ w.cell? ⟨b, 2, none⟩ = some v2 ∧ w.cell? ⟨b, 3, none⟩ = some v3 :=
  ⟨e.cell_some h.1 id, e.cell_some h.2.1 id, e.cell_some h.2.2.1 id, e.cell_some h.2.2.2 id⟩
theorem set2_ext {S : Nat → Prop} {a w : World} {b : Nat} {v0 v1 : Value} (h : Ext S a w) (hb : a.heap.size ≤ b) : Ext S a ((w.setCell ⟨b, 0, none⟩ v0).setCell ⟨b, 1, none⟩ v1) := (h.setCell (p := ⟨b, 0, none⟩) (.inr hb) v0).setCell (p := ⟨b, 1, none⟩) (.inr hb) v1
theorem ret_three {a b c : Int} {t : Int × Int × Int} (h : (a, b, c) = t) : Ending.returned (.tuple #[.int .i64 a, .int .i64 b, .int .i64 c]) = .returned (.tuple #[.int .i64 t.1, .int .i64 t.2.1, .int .i64 t.2.2]) := by cases h; rfl
set_option maxRecDepth 100000 in
set_option maxHeartbeats 4000000 in
theorem v_Bounds (op n : Int) (s : ByteArray) (a : F) (p : Option Addr) (c : Nat) (fa : List Nat) (L : List (ByteArray × Int × Int)) (lp : Option Addr) (lc : Nat) (w : World) (h1 : RdP w a p fa) (h2 : a.len ≤ c) (h3 : c ≤ 9223372036854775807) (h4 : (F.cons op n s a .nil).Fits) (h5 : SpP w L lp) (h6 : L.length ≤ 3) (h7 : L.length ≤ lc) (h8 : lc ≤ maxLen) (h9 : ∀ x ∈ L, SpOk x) :
      Calls Tryz.prog 33 #[.agg #[.int .i64 op, .int .i64 n, .string s, .slice p a.len c], .slice lp L.length lc] w fun e w' => e = .returned (.tuple #[.int .i64 (bndAns L op n s a).1, .int .i64 (bndAns L op n s a).2.1, .int .i64 (bndAns L op n s a).2.2]) ∧ Below w.heap.size w w' := by
  have E1 := (Ext.refl (S := fun _ => False) w).alloc (.cells #[.int .i64 op, .int .i64 n, .string s, .slice p a.len c] 28)
  have HX := hid (And.intro (h1.ext E1 (fun _ _ => id)) (And.intro (h5.ext E1 (fun _ _ => id)) (And.intro h4 h9)))
  have HN := hid (heap_new w (.cells #[.int .i64 op, .int .i64 n, .string s, .slice p a.len c] 28))
  have HB := hid (alloc_below w (.cells #[.int .i64 op, .int .i64 n, .string s, .slice p a.len c] 28))
  have hz1 : w.heap.size + 1 = (w.alloc (.cells #[.int .i64 op, .int .i64 n, .string s, .slice p a.len c] 28)).heap.size := by simp
  clear h1 h5 h4 h9 E1
  go_enter Tryz.func33, Tryz.ntmps33
  go_wp2_with fail
  generalize w.alloc (.cells #[.int .i64 op, .int .i64 n, .string s, .slice p a.len c] 28) = w1 at *
  refine (p_CheckExpr op n s a p c fa _ HX.out.1 h2 h3 HX.out.2.2.1).mono ?_
  rintro e w2 ⟨rfl, hb2⟩
  have E2 := Ext.of_below (S := fun _ => False) hb2
  have HX2 := hid (And.intro (HX.out.1.ext E2 (fun _ _ => id)) (And.intro (HX.out.2.1.ext E2 (fun _ _ => id)) HX.out.2.2))
  have HN2 := hid (E2.heap HN.out id)
  have HB2 := hid (below_ext HB.out E2 (by omega))
  have hz2 : w.heap.size + 1 ≤ w2.heap.size := by have := E2.size; omega
  clear HX HN HB E2 hb2
  generalize hge : errE op n s a 1 = er
  have GE := hid hge
  clear hge
  by_cases he : er = 0
  case neg =>
    have hne : (er != 0) = true := by simpa using he
    have HA := hid (show bndAns L op n s a = (0, 0, er) by rw [bndAns, if_pos (by rw [GE.out]; exact he), GE.out])
    clear he
    go_wp2_with fail
    go_ret3
    exact ⟨ret_three (a := 0) (b := 0) (c := er) HA.out.symm, HB2.out⟩
  subst he
  go_wp2_with fail
  refine (v_checkSpans L lp lc _ HX2.out.2.1 h6 h7 h8 HX2.out.2.2.2).mono ?_
  rintro e w3 ⟨rfl, hb3⟩
  have E3 := Ext.of_below (S := fun _ => False) hb3
  have HX3 := hid (And.intro (HX2.out.1.ext E3 (fun _ _ => id)) (And.intro (HX2.out.2.1.ext E3 (fun _ _ => id)) HX2.out.2.2))
  have HN3 := hid (E3.heap HN2.out id)
  have HB3 := hid (below_ext HB2.out E3 (by omega))
  have hz3 : w.heap.size + 1 ≤ w3.heap.size := by have := E3.size; omega
  clear HX2 HN2 HB2 E3 hb3
  generalize hgs : spErr none L = es
  have GS := hid hgs
  clear hgs
  by_cases he : es = 0
  case neg =>
    have hne : (es != 0) = true := by simpa using he
    have HA := hid (show bndAns L op n s a = (0, 0, es) by rw [bndAns, if_neg (by rw [GE.out]; simp), if_pos (by rw [GS.out]; exact he), GS.out])
    clear he
    go_wp2_with fail
    go_ret3
    exact ⟨ret_three (a := 0) (b := 0) (c := es) HA.out.symm, HB3.out⟩
  subst he
  have HA := hid (show bndAns L op n s a = ((bndE L op n s a).1, (bndE L op n s a).2, 0) by rw [bndAns, if_neg (by rw [GE.out]; simp), if_neg (by rw [GS.out]; simp)])
  obtain ⟨⟨q0, q1, q2, q3⟩, _⟩ := blk4 HN3.out
  have HQ := hid (And.intro q0 (And.intro q1 (And.intro q2 q3)))
  have hl4 : L.length ≤ 4 := by omega
  have HRI := hid (rising_of_spErr _ _ GS.out).1
  have HGD := hid (good_of_spErr _ _ GS.out)
  have HSM := hid (small_of_errE GE.out)
  have ED := hid ((Ext.refl (S := fun _ => False) w3).drew)
  have HXd := hid (And.intro (HX3.out.2.1.ext ED.out (fun _ _ => id)) (HX3.out.1.ext ED.out (fun _ _ => id)))
  have EC := hid (((Ext.refl (S := fun _ => False) w3).alloc (.cells #[.int .i64 0, .int .i64 0] 117)).drew)
  have HXc := hid (And.intro (HX3.out.2.1.ext EC.out (fun _ _ => id)) (HX3.out.1.ext EC.out (fun _ _ => id)))
  have HNc := hid (show ((w3.alloc (.cells #[.int .i64 0, .int .i64 0] 117)).drew).heap[w3.heap.size]? = some (.cells #[.int .i64 0, .int .i64 0] 117) from heap_new w3 (.cells #[.int .i64 0, .int .i64 0] 117))
  go_wp2_with fail
  go_region_held3 (fun w' => w'.cell? ⟨w.heap.size, 0, none⟩ = some (.int .i64 op) ∧ w'.cell? ⟨w.heap.size, 1, none⟩ = some (.int .i64 n) ∧ w'.cell? ⟨w.heap.size, 2, none⟩ = some (.string s) ∧ w'.cell? ⟨w.heap.size, 3, none⟩ = some (.slice p a.len c))
    (first
      | (with_reducible exact four_ext HQ.out E5.out)
      | (with_reducible exact four_ext HQ.out (E5.out.alloc _))
      | (with_reducible exact four_ext HQ.out E4.out)
      | (with_reducible exact four_ext HQ.out (E4.out.alloc _))
      | (with_reducible exact four_ext HQ.out EC.out)
      | (with_reducible exact four_ext HQ.out ED.out)
      | (with_reducible exact four_ext HQ.out (set2_ext E5.out (Nat.le_refl _)))
      | (with_reducible exact four_ext HQ.out (set2_ext E5.out HSZ.out))
      | (go_keep; done))
    (first
      | (go_at_call 81; (with_reducible refine (v_spanRanges L lp lc _ HXd.out.1).mono ?_); rintro e w4 ⟨rfl, hask, hb4⟩; have HA1 := ED; have E4 := hid (ED.out.trans (Ext.of_below (S := fun _ => False) hb4)); have HSZ := hid E4.out.size; have HK4 := hid (show Asks w4 w3.heap.size L lp lc from hask); clear hask hb4)
      | (go_at_call 81; (with_reducible refine (v_spanRanges L lp lc _ HXc.out.1).mono ?_); rintro e w4 ⟨rfl, hask, hb4⟩; have HC1 := hid ((Ext.of_below (S := fun _ => False) hb4).heap HNc.out id); have E4 := hid (EC.out.trans (Ext.of_below (S := fun _ => False) hb4)); have HK4 := hid (show Asks w4 (w3.heap.size + 1) L lp lc by simpa using hask); clear hask hb4)
      | (go_at_call 80; have _t := HA1; (with_reducible refine (v_rangeOf L lp lc _ hl4 h7 h8 HRI.out HGD.out (a.size + 1) op n s a p c fa _ (Nat.lt_succ_self _) (HX3.out.1.ext E4.out (fun _ _ => id)) h2 h3 HX3.out.2.2.1 HSM.out HK4.out).mono ?_); rintro e w5 ⟨rfl, hb5⟩; have E5 := hid (E4.out.trans (Ext.of_below (S := fun _ => False) hb5)); clear hb5)
      | (go_at_call 80; have _t := HA1; (with_reducible refine (v_rangeOf L lp lc _ hl4 h7 h8 HRI.out HGD.out (a.size + 1) op n s a p c fa (w4.alloc (.cells #[.int .i64 0, .int .i64 0] 117)) (Nat.lt_succ_self _) (HX3.out.1.ext (E4.out.alloc (.cells #[.int .i64 0, .int .i64 0] 117)) (fun _ _ => id)) h2 h3 HX3.out.2.2.1 HSM.out (HK4.out.ext ((Ext.refl _).alloc (.cells #[.int .i64 0, .int .i64 0] 117)))).mono ?_); rintro e w5 ⟨rfl, hb5⟩; obtain ⟨⟨z0, z1⟩, y0, y1⟩ := blk2 ((Ext.of_below (S := fun _ => False) hb5).heap (heap_new w4 (.cells #[.int .i64 0, .int .i64 0] 117)) id); have E5 := hid ((E4.out.alloc (.cells #[.int .i64 0, .int .i64 0] 117)).trans (Ext.of_below (S := fun _ => False) hb5)); clear hb5)
      | (go_at_call 80; (with_reducible refine (v_rangeOf L lp lc _ hl4 h7 h8 HRI.out HGD.out (a.size + 1) op n s a p c fa _ (Nat.lt_succ_self _) (HX3.out.1.ext E4.out (fun _ _ => id)) h2 h3 HX3.out.2.2.1 HSM.out HK4.out).mono ?_); rintro e w5 ⟨rfl, hb5⟩; obtain ⟨⟨z0, z1⟩, y0, y1⟩ := blk2 ((Ext.of_below (S := fun _ => False) hb5).heap HC1.out id); have E5 := hid (E4.out.trans (Ext.of_below (S := fun _ => False) hb5)); clear hb5))
  all_goals
    generalize hb1 : (bndE L op n s a).1 = b1
    generalize hb2 : (bndE L op n s a).2 = b2
    have HA' := hid (show bndAns L op n s a = (b1, b2, 0) by rw [HA.out, hb1, hb2])
    clear hb1 hb2
    go_wp2_with fail
    go_quiet (fail)
    go_wp2_with fail
    go_ret3
    exact ⟨ret_three (a := b1) (b := b2) (c := 0) HA'.out.symm, below_ext HB3.out (by first | (with_reducible exact (E5.out.alloc _).drewN _) | (with_reducible exact (set2_ext E5.out HSZ.out).drewN _) | (with_reducible exact (set2_ext E5.out (Nat.le_refl _)).drewN _)) (by omega)⟩
end Go.Proofs.YtckbhlnncokigaaGreat
/- Exec, the program's. -/
namespace Go.Proofs.YtckbhlnncokigaaGreat
open Go.RowKit

/-- What Exec answers. -/
def exAns (L : List (Int × Int × ByteArray)) (T : List (ByteArray × Int)) : Int × Int × Int :=
  if cErr L 0 ≠ 0 then (0, 0, cErr L 0) else if slErr ⟨#[]⟩ T ≠ 0 then (0, 0, slErr ⟨#[]⟩ T) else ((exL T L [] 0).1.getD 0 0, (exL T L [] 0).2, 0)

set_option maxRecDepth 100000 in
set_option maxHeartbeats 4000000 in
theorem v_Exec (L : List (Int × Int × ByteArray)) (p : Option Addr) (c : Nat) (T : List (ByteArray × Int)) (lp : Option Addr) (lc : Nat) (w : World) (hp : WdP w L p) (hl : L.length ≤ 2000) (hlc : L.length ≤ c) (hcm : c ≤ maxLen) (hok : ∀ x ∈ L, WdOk x)
    (hT : SlP w T lp) (hT4 : T.length ≤ 4) (hTc : T.length ≤ lc) (hTm : lc ≤ maxLen) (hTok : ∀ x ∈ T, SlOk x) :
    Calls Tryz.prog 41 #[.slice p L.length c, .slice lp T.length lc] w fun e w' => e = .returned (.tuple #[.int .i64 (exAns L T).1, .int .i64 (exAns L T).2.1, .int .i64 (exAns L T).2.2]) ∧ Below w.heap.size w w' := by
  have HP := hid hp
  have HK := hid hok
  have HT := hid hT
  have HTok := hid hTok
  clear hp hok hT hTok
  go_enter Tryz.func41, Tryz.ntmps41
  go_wp2_with fail
  refine (v_checkCode L p c _ HP.out hl hlc hcm HK.out).mono ?_
  rintro e w1 ⟨rfl, hb1⟩
  have E1 := hid (Ext.of_below (S := fun _ => False) hb1)
  have HB1 := hid hb1
  clear hb1
  generalize hce : cErr L 0 = er
  have CE := hid hce
  clear hce
  by_cases he : er = 0
  case neg =>
    have hne : (er != 0) = true := by simpa using he
    have HA := hid (show exAns L T = (0, 0, er) by rw [exAns, if_pos (by rw [CE.out]; exact he), CE.out])
    clear he
    go_wp2_with fail
    go_ret3
    exact ⟨ret_three (a := 0) (b := 0) (c := er) HA.out.symm, HB1.out⟩
  subst he
  go_wp2_with fail
  refine (s_CheckSlots T lp lc _ (HT.out.ext E1.out (fun _ _ => id)) hT4 hTc hTm HTok.out).mono ?_
  rintro e w2 ⟨rfl, hb2⟩
  have E2 := hid (E1.out.trans (Ext.of_below hb2))
  have HB2 := hid (HB1.out.trans (hb2.mono HB1.out.size))
  clear hb2
  generalize hse : slErr' none T = es
  have SE := hid hse
  clear hse
  by_cases he : es = 0
  case neg =>
    have hne : (es != 0) = true := by simpa using he
    have HA := hid (show exAns L T = (0, 0, es) by
      have g : slErr ⟨#[]⟩ T = es := SE.out
      rw [exAns, if_neg (by rw [CE.out]; simp), if_pos (by rw [g]; exact he), g])
    clear he
    go_wp2_with fail
    go_ret3
    exact ⟨ret_three (a := 0) (b := 0) (c := es) HA.out.symm, HB2.out⟩
  subst he
  go_wp2_with fail
  refine (v_workM L p c _ (HP.out.ext E2.out (fun _ _ => id)) hl hlc hcm HK.out CE.out).mono ?_
  rintro e w3 ⟨⟨v, g, mm, rfl, hex, hm⟩, hb3⟩
  have E3 := hid (E2.out.trans (Ext.of_below hb3))
  have HB3 := hid (HB2.out.trans (hb3.mono HB2.out.size))
  have HX := hid (show (exL T L [] 0).1 = [g fun s => valL s.data.toList T] ∧ (exL T L [] 0).2 = mm by
    have h := exG_L T L [] 0
    rw [hex] at h
    exact ⟨by simpa using h.1.symm, by simpa using h.2.symm⟩)
  obtain ⟨kv, cv, rfl, hkv, hcv⟩ := hm
  unfold Enters at hkv
  have HC := hid hcv
  clear hb3 hex hcv
  go_wp2_with fail
  refine (v_slotValues T lp lc _ (HT.out.ext E3.out (fun _ _ => id))).mono ?_
  rintro e w5 ⟨rfl, hask, hb5⟩
  have E5 := hid (Ext.of_below (S := fun _ => False) hb5)
  have HB5 := hid (HB3.out.trans (hb5.mono HB3.out.size))
  have HO5 := hid (of_slots hask hT4 hTc hTm (rising_of_slErr _ _ SE.out).1 (good_of_slErr _ _ SE.out))
  clear hb5 hask
  have HA := hid (show exAns L T = (g fun s => valL s.data.toList T, mm, 0) by
    have k : slErr ⟨#[]⟩ T = 0 := SE.out
    rw [exAns, if_neg (by rw [CE.out]; simp), if_neg (by rw [k]; simp), HX.out.1, HX.out.2]; rfl)
  go_wp2_with fail
  have HV := hid (HC.out _ _ w5 (.of_ext E5.out) HO5.out).2
  generalize (g fun s => valL s.data.toList T) = va at HV HA
  refine HV.out.mono ?_
  rintro e w6 ⟨rfl, hb6⟩
  have HB6 := hid (HB5.out.trans (hb6.mono HB5.out.size))
  clear hb6
  go_wp2_with fail
  go_ret3
  exact ⟨ret_three (a := va) (b := mm) (c := 0) HA.out.symm, HB6.out⟩
end Go.Proofs.YtckbhlnncokigaaGreat
/- slices.Equal at words: of equal lists. -/
namespace Go.Proofs.YtckbhlnncokigaaGreat
open Go.RowKit

set_option maxRecDepth 100000 in
set_option maxHeartbeats 2000000 in
theorem equal_words (L : List (Int × Int × ByteArray)) (p q : Option Addr) (c d : Nat) (w : World) (hp : WdP w L p) (hq : WdP w L q) (hl : L.length ≤ 100000) :
    Calls Tryz.prog 46 #[.slice p L.length c, .slice q L.length d] w fun e w' => e = .returned (.bool true) ∧ Below w.heap.size w w' := by
  have HP := hid hp
  have HQ := hid hq
  have hli : (L.length : Int) ≤ 100000 := by omega
  clear hp hq
  go_enter Tryz.func46, Tryz.ntmps46
  go_wp2_with fail
  go_loopw [13] (fun i wr => ∃ k : Nat, k ≤ L.length ∧ i = .int .i64 k ∧ Below w.heap.size w wr) (fun i _ => L.length - (intOf i).toNat)
  case atStart => exact ⟨0, by omega, rfl, Below.refl _ _⟩
  case round =>
    obtain ⟨k, hk, rfl, hbl⟩ := hrel
    have HB := hid hbl
    clear hbl
    by_cases hlt : k < L.length
    · rcases HP.out with h0 | ⟨b, rfl, hat⟩
      · rw [h0] at hlt; simp at hlt
      rcases HQ.out with h0 | ⟨b', rfl, hat'⟩
      · rw [h0] at hlt; simp at hlt
      obtain ⟨c0, c1, c2⟩ := (hat.ext (S := fun _ => False) (Ext.of_below HB.out) id) k _ (List.getElem?_eq_getElem hlt)
      obtain ⟨d0, d1, d2⟩ := (hat'.ext (S := fun _ => False) (Ext.of_below HB.out) id) k _ (List.getElem?_eq_getElem hlt)
      generalize L[k] = x at c0 c1 c2 d0 d1 d2
      obtain ⟨xo, xn, xs⟩ := x
      dsimp only at c0 c1 c2 d0 d1 d2
      clear hat hat'
      have hlt' : (k : Int) < L.length := by omega
      have hk0 : (0 : Int) ≤ k := by omega
      go_wp2_with fail
      go_quiet (fail)
      go_wp2_with fail
      go_roundw
      case rel => exact ⟨k + 1, by omega, by go_num, bdrewN' HB.out _⟩
      case measure => simp [intOf]; omega
    · go_wp2_with fail
      go_ret
      exact ⟨rfl, HB.out⟩
end Go.Proofs.YtckbhlnncokigaaGreat
