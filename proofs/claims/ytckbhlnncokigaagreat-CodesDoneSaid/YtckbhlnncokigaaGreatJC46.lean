/- Texts joined: LawC. -/
import Derived.Test.YtckbhlnncokigaaGreatJC16
import Derived.Test.YtckbhlnncokigaaGreatJC27
import Derived.Test.YtckbhlnncokigaaGreatJC30
import Derived.Test.YtckbhlnncokigaaGreatJC38
import Derived.Test.YtckbhlnncokigaaGreatJC39
import Derived.Test.YtckbhlnncokigaaGreatJC44
import Derived.Test.YtckbhlnncokigaaGreatJC21
import Derived.Test.YtckbhlnncokigaaGreatJC45
import Derived.Deep.RegionHeld3
/- The law CodesDone, out of the contracts of what it calls. -/
namespace Go.Proofs.YtckbhlnncokigaaGreat
open Go.RowKit

/-- What stays as long as the old blocks stay. -/
def Stab (R : World → Prop) : Prop := ∀ a b, Ext (fun _ => False) a b → R a → R b
theorem Stab.and {R P : World → Prop} (h : Stab R) (k : Stab P) : Stab fun w => R w ∧ P w := fun a b e x => ⟨h a b e x.1, k a b e x.2⟩
theorem stab_wd (L : List (Int × Int × ByteArray)) (p : Option Addr) : Stab fun w => WdP w L p := fun _ _ e h => h.ext e (fun _ _ => id)
theorem stab_sl (L : List (ByteArray × Int)) (p : Option Addr) : Stab fun w => SlP w L p := fun _ _ e h => h.ext e (fun _ _ => id)
theorem stab_rd (a : F) (p : Option Addr) (fa : List Nat) : Stab fun w => RdP w a p fa := fun _ _ e h => h.ext e (fun _ _ => id)
theorem stab_heap (b : Nat) (o : Obj) : Stab fun w => w.heap[b]? = some o := fun _ _ e h => e.heap h id
theorem eqw (M : List (Int × Int × ByteArray)) (l : Nat) (hl : M.length = l) (p q : Option Addr) (c d : Nat) (w : World) (hp : WdP w M p) (hq : WdP w M q) (hm : M.length ≤ 100000) :
    Calls Tryz.prog 46 #[.slice p l c, .slice q l d] w fun e w' => e = .returned (.bool true) ∧ Below w.heap.size w w' := by
  subst hl; exact equal_words M p q c d w hp hq hm
theorem same_w (op n : Int) (s : ByteArray) (a : F) (l : Nat) (hl : a.len = l) (p : Option Addr) (c : Nat) (fa : List Nat) (p' : Option Addr) (c' : Nat) (fa' : List Nat) (w : World) (h1 : RdP w a p fa) (h2 : RdP w a p' fa') (h3 : a.len ≤ c) (h4 : c ≤ 9223372036854775807) (h5 : a.len ≤ c') (h6 : c' ≤ 9223372036854775807) :
    Calls Tryz.prog 31 #[.agg #[.int .i64 op, .int .i64 n, .string s, .slice p l c], .agg #[.int .i64 op, .int .i64 n, .string s, .slice p' l c']] w fun e w' => e = .returned (.bool true) ∧ Below w.heap.size w w' := by
  subst hl
  have h := q_SameExpr (a.size + 1) op n s a p c fa op n s a p' c' fa' w (by omega) h1 h2 h3 h4 h5 h6
  rw [show sameE op n s a op n s a = true by simp [sameE, F.eqb_refl]] at h
  exact h
/-- What a draw leaves of words that a draw before has made. -/
theorem wd_went {w w' : World} {sb : Nat} {L : List (Int × Int × ByteArray)} {p : Option Addr} (h : WdP w L p) (e : Ext (· = sb) w w') (hb : ∀ b, p.map (·.block) = some b → b ≠ sb) : WdP w' L p := h.ext e (fun b hb' => hb b hb')

def RC (L C : List (Int × Int × ByteArray)) (lp mq : Option Addr) (T : List (ByteArray × Int)) (tp : Option Addr) (kb : Nat) (o : Obj) (ba : F) (bp : Option Addr) (bfa : List Nat) (w : World) : Prop :=
  ((WdP w L lp ∧ SlP w T tp) ∧ WdP w C mq) ∧ (w.heap[kb]? = some o ∧ RdP w ba bp bfa)
theorem stab_RC (L C : List (Int × Int × ByteArray)) (lp mq : Option Addr) (T : List (ByteArray × Int)) (tp : Option Addr) (kb : Nat) (o : Obj) (ba : F) (bp : Option Addr) (bfa : List Nat) : Stab (RC L C lp mq T tp kb o ba bp bfa) :=
  (((stab_wd L lp).and (stab_sl T tp)).and (stab_wd C mq)).and ((stab_heap kb o).and (stab_rd ba bp bfa))

set_option maxRecDepth 100000 in
set_option maxHeartbeats 8000000 in
theorem codes_all (a0 : Option Addr) (len cap : Nat) (zs : List Int) (w : World) (hr : IsRow w a0 len cap zs) :
    Calls Tryz.prog 6 #[.slice a0 len cap] w fun e w' => e = .returned (.bool true) ∧ Below w.heap.size w w' := by
  have HR := hid hr
  clear hr
  go_enter Tryz.func6, Tryz.ntmps6
  go_wp2_with fail
  have HS := hid (str_start (T := 25) HR.out)
  have HB1 := hid (alloc_below w (.cells #[.slice a0 len cap, .int .i64 0] 25))
  have hz1 : w.heap.size + 1 = (w.alloc (.cells #[.slice a0 len cap, .int .i64 0] 25)).heap.size := by simp
  generalize w.alloc (.cells #[.slice a0 len cap, .int .i64 0] 25) = w1 at *
  refine (anexpr_any _ HS.out (by omega)).mono ?_
  rintro e w2 ⟨⟨op, n, s, f, p, c, fa, rfl, h1, h2, h3, h4, h5, h6⟩, hw2⟩
  obtain ⟨at2, hs2, hle2⟩ := hw2.2
  have HX := hid (And.intro h1 (And.intro h2 (And.intro h3 (And.intro h4 (And.intro h5 (show f.size ≤ 149 by omega))))))
  have HS2 := hid hs2
  have HB2 := hid (below_went HB1.out hw2.1 (Nat.le_refl _) (by omega))
  have hz2 : w.heap.size + 1 ≤ w2.heap.size := by have := hw2.1.size; omega
  clear h1 h2 h3 h4 h5 h6 hs2 hw2
  go_wp2_with fail
  refine (code_any _ HS2.out (by omega)).mono ?_
  rintro e w3 ⟨⟨L, lp, lc, rfl, h1, h2, h3, h4, h5, h6⟩, hw3⟩
  obtain ⟨at3, hs3, hle3⟩ := hw3.2
  have HC3 := hid h1
  have HCb := hid (show ∀ b, lp.map (·.block) = some b → b ≠ w.heap.size from fun b hb => by have := h6 b hb; omega)
  have HL := hid (And.intro h2 (And.intro h3 (And.intro h4 h5)))
  have HS3 := hid hs3
  have HB3 := hid (below_went HB2.out hw3.1 (Nat.le_refl _) (by omega))
  have HR3 := hid (HX.out.1.ext hw3.1 (fun b hb e => by have := HX.out.2.2.2.1 b hb; omega))
  have hz3 : w.heap.size + 1 ≤ w3.heap.size := Nat.le_trans hz2 hw3.1.size
  clear h1 h2 h3 h4 h5 h6 hs3 hw3
  go_wp2_with fail
  refine (slots_any _ HS3.out (by omega)).mono ?_
  rintro e w4 ⟨⟨T, tp, tc, rfl, hlp, hl3, hok, hlc, hlm⟩, hw4⟩
  have hP4 : SlP w4 T tp := hlp.elim .inl fun ⟨b, h, _, k⟩ => .inr ⟨b, h, k⟩
  have hB4 := below_went HB3.out hw4.1 (Nat.le_refl _) (by omega)
  have hz4 : w.heap.size + 1 ≤ w4.heap.size := Nat.le_trans hz3 hw4.1.size
  have hR4 := HR3.out.ext hw4.1 (fun b hb e => by have := HX.out.2.2.2.1 b hb; omega)
  have hC4 := wd_went HC3.out hw4.1 HCb.out
  have E4 := (Ext.refl (S := fun _ => False) w4).alloc (.cells #[.int .i64 op, .int .i64 n, .string s, .slice p f.len c] 28)
  have HI4 : Hid (LInv (fun u => WdP u L lp ∧ SlP u T tp) w w4.heap.size op n s f p c fa (w4.alloc (.cells #[.int .i64 op, .int .i64 n, .string s, .slice p f.len c] 28))) :=
    hid ⟨heap_new w4 _, hB4.alloc (by omega) _, hR4.ext E4 (fun _ _ => id), ⟨hC4.ext E4 (fun _ _ => id), hP4.ext E4 (fun _ _ => id)⟩, by simp; omega⟩
  have HSt1 := hid ((stab_wd L lp).and (stab_sl T tp))
  have HT := hid (And.intro hl3 (And.intro hlc (And.intro hlm hok)))
  clear hlp hok hw4 hP4 hB4 hR4 hC4 E4 hl3 hlc hlm HC3 HCb HR3 HB1 HB2 HB3 HS HS2 HS3
  go_wp2_with fail
  generalize w4.alloc (.cells #[.int .i64 op, .int .i64 n, .string s, .slice p f.len c] 28) = w5 at *
  refine (q_ExprFault op n s f p c fa _ HI4.out.2.2.1 HX.out.2.1 HX.out.2.2.1 HX.out.2.2.2.2.1).mono ?_
  rintro e w6 ⟨rfl, hb⟩
  have HI6 := hid (HI4.out.below hb HSt1.out)
  clear hb HI4
  generalize hge : errE op n s f 1 = er
  have GE := hid hge
  clear hge
  go_wp2_with fail
  refine (r_CodeFault L lp lc _ HI6.out.2.2.2.1.1 (by have := HL.out.1; omega) HL.out.2.1 HL.out.2.2.1 HL.out.2.2.2).mono ?_
  rintro e w7 ⟨rfl, hb⟩
  have HI7 := hid (HI6.out.below hb HSt1.out)
  clear hb HI6
  generalize hgc : cErr L 0 = ce
  have GC := hid hgc
  clear hgc
  obtain ⟨⟨q0, q1, q2, q3⟩, _⟩ := blk4 HI7.out.1
  go_wp2_with fail
  refine (v_Code op n s f p c fa _ HX.out.2.2.2.2.2 HI7.out.2.2.1 HX.out.2.1 HX.out.2.2.1 HX.out.2.2.2.2.1).mono ?_
  rintro e w8 ⟨⟨mq, mk, rfl, hmd, hmk, hmm⟩, hb⟩
  have HI8 := hid (HI7.out.below hb HSt1.out)
  have HM8 := hid hmd
  rw [GE.out]
  have HMl := hid (show (cdAns op n s f).length ≤ 150 by
    have := HX.out.2.2.2.2.2
    unfold cdAns; split
    · simp
    · rw [ptE_length]; omega)
  generalize hml : (cdAns op n s f).length = ml
  have HML := hid hml
  clear hb HI7 q0 q1 q2 q3 hmd hmk hmm hml
  obtain ⟨⟨q0, q1, q2, q3⟩, _⟩ := blk4 HI8.out.1
  go_wp2_with fail
  refine (v_Stack op n s f p c fa _ HX.out.2.2.2.2.2 HI8.out.2.2.1 HX.out.2.1 HX.out.2.2.1 HX.out.2.2.2.2.1).mono ?_
  rintro e w9 ⟨rfl, hb⟩
  have HI9 := hid (HI8.out.below hb HSt1.out)
  have HM9 := hid (stab_wd _ _ _ _ (Ext.of_below hb) HM8.out)
  rw [GE.out]
  generalize hst : stAns op n s f = sv
  have GS := hid hst
  clear hb HI8 HM8 q0 q1 q2 q3 hst
  go_wp2_with fail
  refine (v_Back L lp lc _ HI9.out.2.2.2.1.1 (by have := HL.out.1; omega) HL.out.2.1 HL.out.2.2.1 HL.out.2.2.2).mono ?_
  rintro e w10 ⟨⟨bop, bn, bs, ba, bp, bc, bfa, rfl, hA, hbr, hb1, hb2, hb3, _⟩, hb⟩
  have HI10 := hid (HI9.out.below hb HSt1.out)
  have HM10 := hid (stab_wd _ _ _ _ (Ext.of_below hb) HM9.out)
  have HA := hid hA
  have HBk := hid (And.intro hbr (And.intro hb1 hb2))
  generalize hb2' : (bkAns L).2 = b2
  have GB := hid hb2'
  have E11 := (Ext.refl (S := fun _ => False) w10).alloc (.cells #[.int .i64 bop, .int .i64 bn, .string bs, .slice bp ba.len bc] 28)
  have HI11 : Hid (LInv (RC L (cdAns op n s f) lp mq T tp w10.heap.size (.cells #[.int .i64 bop, .int .i64 bn, .string bs, .slice bp ba.len bc] 28 (0, 0)) ba bp bfa) w w4.heap.size op n s f p c fa (w10.alloc (.cells #[.int .i64 bop, .int .i64 bn, .string bs, .slice bp ba.len bc] 28))) := hid (by
    have h := HI10.out.ext E11 HSt1.out
    exact ⟨h.1, h.2.1, h.2.2.1, ⟨⟨h.2.2.2.1, stab_wd _ _ _ _ E11 HM10.out⟩, heap_new w10 _, stab_rd _ _ _ _ _ E11 HBk.out.1⟩, h.2.2.2.2⟩)
  have HSt := hid (stab_RC L (cdAns op n s f) lp mq T tp w10.heap.size (.cells #[.int .i64 bop, .int .i64 bn, .string bs, .slice bp ba.len bc] 28 (0, 0)) ba bp bfa)
  clear hb HI9 HM9 HI10 HM10 hA hbr hb1 hb2 hb3 hb2' E11
  go_wp2_with fail
  generalize w10.alloc (.cells #[.int .i64 bop, .int .i64 bn, .string bs, .slice bp ba.len bc] 28) = w11 at *
  generalize w10.heap.size = kb at *
  refine (v_Exec L lp lc T tp tc _ HI11.out.2.2.2.1.1.1.1 (by have := HL.out.1; omega) HL.out.2.1 HL.out.2.2.1 HL.out.2.2.2 HI11.out.2.2.2.1.1.1.2 HT.out.1 HT.out.2.1 HT.out.2.2.1 HT.out.2.2.2).mono ?_
  rintro e w12 ⟨rfl, hb⟩
  have HI12 := hid (HI11.out.below hb HSt.out)
  clear hb HI11
  generalize hx1 : (exAns L T).1 = x1
  generalize hx2 : (exAns L T).2.1 = x2
  generalize hx3 : (exAns L T).2.2 = x3
  have GX := hid (And.intro hx1 (And.intro hx2 hx3))
  clear hx1 hx2 hx3
  go_wp2_with fail
  refine (q_SlotsFault T tp tc _ HI12.out.2.2.2.1.1.1.2 HT.out.1 HT.out.2.1 HT.out.2.2.1 HT.out.2.2.2).mono ?_
  rintro e w13 ⟨rfl, hb⟩
  have HI13 := hid (HI12.out.below hb HSt.out)
  clear hb HI12
  generalize hgs : slErr ⟨#[]⟩ T = se
  have GL := hid hgs
  clear hgs
  go_wp2_with fail
  refine (or_new [ce, se] 2 _ _ (by omega) rfl).mono ?_
  rintro e w14 ⟨rfl, hb⟩
  have HI14 := hid (HI13.out.below hb HSt.out)
  clear hb HI13
  generalize hgo : orL [ce, se] = ot
  have GO := hid hgo
  clear hgo
  have HWn := hid (heap_new w14 (.cells #[.int .i64 0, .int .i64 0, .string ⟨#[]⟩, .slice none 0 0] 28))
  have HEn := hid ((Ext.refl (S := fun _ => False) w14).alloc (.cells #[.int .i64 0, .int .i64 0, .string ⟨#[]⟩, .slice none 0 0] 28))
  have hzn : w14.heap.size + 1 = (w14.alloc (.cells #[.int .i64 0, .int .i64 0, .string ⟨#[]⟩, .slice none 0 0] 28)).heap.size := by simp
-- CASES
  by_cases he : er = 0
  · subst he
    have HSm := hid (small_of_errE GE.out)
    have HCD := hid (show cdAns op n s f = ptE op n s f by rw [cdAns, if_neg (by rw [GE.out]; simp)])
    obtain rfl : sv = plL (plF f) := by rw [← GS.out, stAns, if_neg (by rw [GE.out]; simp)]
    have HPl := hid (show (ptE op n s f).length = ml by rw [← HCD.out]; exact HML.out)
    have HCod := hid (fun w' (h : RdP w' f p fa) => r_CodeOf op n s f p c fa w' (by have := HX.out.2.2.2.2.2; omega) h HX.out.2.1 HX.out.2.2.1)
    have HSto := hid (fun w' (h : RdP w' f p fa) => r_StackOf (f.size + 1) (by have := HX.out.2.2.2.2.2; omega) op n s f p c fa w' (by omega) HSm.out h HX.out.2.1 HX.out.2.2.1)
    go_wp2_with fail
    generalize w14.alloc (.cells #[.int .i64 0, .int .i64 0, .string ⟨#[]⟩, .slice none 0 0] 28) = wa at *
    have HD := hid (HI14.out.ext HEn.out.drew HSt.out)
    have HKd := hid (blk4 HD.out.1).1
    go_region_held3 (fun w' => w'.cell? ⟨w4.heap.size, 0, none⟩ = some (.int .i64 op) ∧ w'.cell? ⟨w4.heap.size, 1, none⟩ = some (.int .i64 n) ∧ w'.cell? ⟨w4.heap.size, 2, none⟩ = some (.string s) ∧ w'.cell? ⟨w4.heap.size, 3, none⟩ = some (.slice p f.len c))
      (first
        | exact HK16.out
        | exact HKa.out
        | exact HKd.out
        | (go_keep; done))
      (first
        | (go_at_call 42; refine (HCod.out _ HD.out.2.2.1).mono ?_; rintro e w15 ⟨⟨v15, rfl, hown15⟩, hb15⟩; obtain ⟨qc, kc, rfl, hwc, _, _, hqb⟩ := words_end hown15; have FA := hid ((Ext.refl (S := fun _ => False) wa).drew.trans (Ext.of_below hb15)); have HIa := hid (HD.out.below hb15 HSt.out); have HKa := hid (blk4 HIa.out.1).1; have HWa := hid hwc; have HQB := hid (fun (x : Addr) (h : qc = some x) => (hqb x h : wa.heap.size ≤ x.block)); clear hown15 hb15 hwc hqb)
        | (go_at_call 43; refine (HSto.out _ HIa.out.2.2.1).mono ?_; rintro e w16 ⟨rfl, hb16⟩; have HI16 := hid (HIa.out.below hb16 HSt.out); have HK16 := hid (blk4 HI16.out.1).1; have F16 := hid (FA.out.trans (Ext.of_below hb16)); have HWc := hid (stab_wd _ _ _ _ (Ext.of_below hb16) HWa.out); clear hb16))
    all_goals
      rw [HPl.out]
      have HSep := hid (show ∀ b, qc.map (·.block) = some b → b ≠ w14.heap.size from fun b hb => by
        cases qc with
        | none => simp at hb
        | some x =>
          have h1 : wa.heap.size ≤ x.block := HQB.out x rfl
          have h2 : x.block = b := by simpa using hb
          omega)
      have E16 := hid (HEn.out.trans F16.out)
      have HWB16 := hid (F16.out.heap HWn.out id)
      have HWC16 := hid (show WdP w16 (cdAns op n s f) qc by rw [HCD.out]; exact HWc.out)
      have hz16 : w14.heap.size < w16.heap.size := by have := F16.out.size; omega
      clear HWc HD HI16 HIa HK16 HKa HKd
      generalize plL (plF f) = sv
      by_cases hc : ce = 0
      · skip
        have HI16 := hid (HI14.out.ext E16.out HSt.out)
        subst hc
        go_wp2_with fail
        refine (r_BackOf L lp lc _ HI16.out.2.2.2.1.1.1.1 (by have := HL.out.1; omega) HL.out.2.1 HL.out.2.2.1 HL.out.2.2.2 GC.out).mono ?_
        rintro e w17 ⟨⟨op', n', s', a', p', c', fa', rfl, hA', hr', h1', h2', _, hfa'⟩, hb17⟩
        have hAe : bkAns L = bkOf L := by rw [bkAns, if_neg (by rw [GC.out]; simp)]
        have hinj : F.cons bop bn bs ba .nil = F.cons op' n' s' a' .nil := by rw [← hA', ← hAe, HA.out]
        obtain ⟨rfl, rfl, rfl, rfl, _⟩ := F.cons.inj hinj
        rw [← hAe, GB.out]
        have E17 := hid (E16.out.trans (Ext.of_below hb17))
        have HWB17 := hid (stab_heap _ _ _ _ (Ext.of_below hb17) HWB16.out)
        have HWC17 := hid (stab_wd _ _ _ _ (Ext.of_below hb17) HWC16.out)
        have HRc := hid (And.intro h1' h2')
        have HR17 := hid (And.intro hr' (show ∀ b ∈ fa', b ≠ w14.heap.size from fun b hb => by have := hfa' b hb; have := hz16; omega))
        clear hb17 hA' hAe hinj hr' h1' h2' hfa'
        obtain ⟨⟨z0, z1, z2, z3⟩, g0, g1, g2, g3⟩ := blk4 HWB17.out
        go_upto_region 16 with (fail)
        have E18 := hid (set4_ext (a0 := .int .i64 bop) (a1 := .int .i64 bn) (a2 := .string bs) (a3 := .slice p' ba.len c') E17.out (b := w14.heap.size) (.inr (Nat.le_refl _)))
        have HS18 := hid (set4_ext (S := (· = w14.heap.size)) (a0 := .int .i64 bop) (a1 := .int .i64 bn) (a2 := .string bs) (a3 := .slice p' ba.len c') (Ext.refl w17) (b := w14.heap.size) (.inl rfl))
        have HWB18 := hid (set4_heap (a0 := .int .i64 bop) (a1 := .int .i64 bn) (a2 := .string bs) (a3 := .slice p' ba.len c') HWB17.out)
        have HRW18 := hid (HR17.out.1.ext HS18.out (fun b hb e => HR17.out.2 b hb e))
        have HWC18 := hid (HWC17.out.ext HS18.out (fun b hb e => HSep.out b hb e))
        clear z0 z1 z2 z3 g0 g1 g2 g3 E17 HWB17 HWC17 HR17 HS18 HI16
        generalize ((((w17.setCell ⟨w14.heap.size, 0, none⟩ (.int .i64 bop)).setCell ⟨w14.heap.size, 1, none⟩ (.int .i64 bn)).setCell ⟨w14.heap.size, 2, none⟩ (.string bs)).setCell ⟨w14.heap.size, 3, none⟩ (.slice p' ba.len c')) = w18 at *
        by_cases hs : se = 0
        · subst hs
          have HI18 := hid (HI14.out.ext E18.out HSt.out)
          have hor : orL [0, 0] = 0 := rfl
          obtain rfl : ot = 0 := by rw [← GO.out]; rfl
          go_wp2_with fail
          refine (r_ExecOf L lp lc T tp tc _ HI18.out.2.2.2.1.1.1.1 (by have := HL.out.1; omega) HL.out.2.1 HL.out.2.2.1 HL.out.2.2.2 GC.out HI18.out.2.2.2.1.1.1.2 HT.out.1 HT.out.2.1 HT.out.2.2.1 HT.out.2.2.2 (good_of_slErr _ _ GL.out)).mono ?_
          rintro e w19 ⟨⟨r, hr, rfl⟩, hb19⟩
          have hans : exAns L T = (r, (exL T L [] 0).2, 0) := by
            rw [exAns, if_neg (by rw [GC.out]; simp), if_neg (by rw [GL.out]; simp), hr]; rfl
          have hg := GX.out
          rw [hans] at hg
          obtain ⟨h1, h2, h3⟩ := hg
          dsimp only at h1 h2 h3
          subst h1 h2 h3
          have E19 := hid (E18.out.trans (Ext.of_below hb19))
          have HWB19 := hid (stab_heap _ _ _ _ (Ext.of_below hb19) HWB18.out)
          have HRW19 := hid (stab_rd _ _ _ _ _ (Ext.of_below hb19) HRW18.out)
          have HWC19 := hid (stab_wd _ _ _ _ (Ext.of_below hb19) HWC18.out)
          clear hb19 hr hans GX hor
          have GX := hid True.intro
          generalize (exL T L [] 0).2 = x2
          have HI19 := hid (HI14.out.ext E19.out HSt.out)
          have EQ := GX.out
          go_wp2_with fail
          refine (eqw (cdAns op n s f) _ HML.out _ _ _ _ _ HI19.out.2.2.2.1.1.2 HWC19.out (by have := HMl.out; omega)).mono ?_
          rintro e w20 ⟨rfl, hb20⟩
          have HI20 := hid (HI19.out.below hb20 HSt.out)
          have HWB20 := hid (stab_heap _ _ _ _ (Ext.of_below hb20) HWB19.out)
          have HRW20 := hid (stab_rd _ _ _ _ _ (Ext.of_below hb20) HRW19.out)
          clear hb20
          obtain ⟨⟨z0, z1, z2, z3⟩, _⟩ := blk4 HWB20.out
          obtain ⟨⟨y0, y1, y2, y3⟩, _⟩ := blk4 HI20.out.2.2.2.1.2.1
          go_wp2_with fail
          refine (same_w _ _ _ _ _ rfl _ _ _ _ _ _ _ HI20.out.2.2.2.1.2.2 HRW20.out HBk.out.2.1 HBk.out.2.2 HRc.out.1 HRc.out.2).mono ?_
          rintro e w21 ⟨rfl, hb21⟩
          have HI21 := hid (HI20.out.below hb21 HSt.out)
          clear hb21 z0 z1 z2 z3 y0 y1 y2 y3
          go_wp2_with fail
          refine (l_valued _).mono ?_
          rintro e w22 ⟨rfl, hb22⟩
          have HB22 := hid (HI21.out.2.1.trans (hb22.mono (by have := HI21.out.2.1.size; omega)))
          clear hb22
          go_wp2_with fail
          go_ret
          exact ⟨rfl, HB22.out⟩
        · skip
          obtain rfl : ot = se := by rw [← GO.out]; simp [orL, hs]
          have hs2 : (ot == 0) = false := by simpa using hs
          have hans : exAns L T = (0, 0, ot) := by rw [exAns, if_neg (by rw [GC.out]; simp), if_pos (by rw [GL.out]; exact hs), GL.out]
          have hg := GX.out
          rw [hans] at hg
          obtain ⟨h1, h2, h3⟩ := hg
          dsimp only at h1 h2 h3
          subst h1 h2 h3
          have E19 := E18
          have HWB19 := HWB18
          have HRW19 := HRW18
          have HWC19 := HWC18
          clear hans hs GX
          have GX := hid True.intro
          have HI19 := hid (HI14.out.ext E19.out HSt.out)
          have EQ := GX.out
          go_wp2_with fail
          refine (eqw (cdAns op n s f) _ HML.out _ _ _ _ _ HI19.out.2.2.2.1.1.2 HWC19.out (by have := HMl.out; omega)).mono ?_
          rintro e w20 ⟨rfl, hb20⟩
          have HI20 := hid (HI19.out.below hb20 HSt.out)
          have HWB20 := hid (stab_heap _ _ _ _ (Ext.of_below hb20) HWB19.out)
          have HRW20 := hid (stab_rd _ _ _ _ _ (Ext.of_below hb20) HRW19.out)
          clear hb20
          obtain ⟨⟨z0, z1, z2, z3⟩, _⟩ := blk4 HWB20.out
          obtain ⟨⟨y0, y1, y2, y3⟩, _⟩ := blk4 HI20.out.2.2.2.1.2.1
          go_wp2_with fail
          refine (same_w _ _ _ _ _ rfl _ _ _ _ _ _ _ HI20.out.2.2.2.1.2.2 HRW20.out HBk.out.2.1 HBk.out.2.2 HRc.out.1 HRc.out.2).mono ?_
          rintro e w21 ⟨rfl, hb21⟩
          have HI21 := hid (HI20.out.below hb21 HSt.out)
          clear hb21 z0 z1 z2 z3 y0 y1 y2 y3
          go_wp2_with fail
          refine (l_valued _).mono ?_
          rintro e w22 ⟨rfl, hb22⟩
          have HB22 := hid (HI21.out.2.1.trans (hb22.mono (by have := HI21.out.2.1.size; omega)))
          clear hb22
          go_wp2_with fail
          go_ret
          exact ⟨rfl, HB22.out⟩
      · skip
        have hc2 : (ce == 0) = false := by simpa using hc
        obtain rfl : ot = ce := by rw [← GO.out]; simp [orL, hc]
        have hbk : bkAns L = (zeroE, ot) := by rw [bkAns, if_pos (by rw [GC.out]; exact hc), GC.out]
        obtain rfl : b2 = ot := by have h := GB.out; rw [hbk] at h; exact h.symm
        have hinj : F.cons bop bn bs ba .nil = F.cons 0 0 ⟨#[]⟩ .nil .nil := by rw [← HA.out, hbk]; rfl
        obtain ⟨rfl, rfl, rfl, rfl, _⟩ := F.cons.inj hinj
        have hans : exAns L T = (0, 0, b2) := by rw [exAns, if_pos (by rw [GC.out]; exact hc), GC.out]
        have hg := GX.out
        rw [hans] at hg
        obtain ⟨h1, h2, h3⟩ := hg
        dsimp only at h1 h2 h3
        subst h1 h2 h3
        have E19 := E16
        have HWB19 := HWB16
        have HWC19 := HWC16
        have HRW19 := hid (show RdP w16 .nil none [] from .inl ⟨rfl, rfl⟩)
        have HRc := hid (show F.nil.len ≤ 0 ∧ (0 : Nat) ≤ 9223372036854775807 from ⟨by simp [F.len], by omega⟩)
        clear hc hbk hinj hans GX
        have GX := hid True.intro
        have HI19 := hid (HI14.out.ext E19.out HSt.out)
        have EQ := GX.out
        go_wp2_with fail
        refine (eqw (cdAns op n s f) _ HML.out _ _ _ _ _ HI19.out.2.2.2.1.1.2 HWC19.out (by have := HMl.out; omega)).mono ?_
        rintro e w20 ⟨rfl, hb20⟩
        have HI20 := hid (HI19.out.below hb20 HSt.out)
        have HWB20 := hid (stab_heap _ _ _ _ (Ext.of_below hb20) HWB19.out)
        have HRW20 := hid (stab_rd _ _ _ _ _ (Ext.of_below hb20) HRW19.out)
        clear hb20
        obtain ⟨⟨z0, z1, z2, z3⟩, _⟩ := blk4 HWB20.out
        obtain ⟨⟨y0, y1, y2, y3⟩, _⟩ := blk4 HI20.out.2.2.2.1.2.1
        go_wp2_with fail
        refine (same_w _ _ _ _ _ rfl _ _ _ _ _ _ _ HI20.out.2.2.2.1.2.2 HRW20.out HBk.out.2.1 HBk.out.2.2 HRc.out.1 HRc.out.2).mono ?_
        rintro e w21 ⟨rfl, hb21⟩
        have HI21 := hid (HI20.out.below hb21 HSt.out)
        clear hb21 z0 z1 z2 z3 y0 y1 y2 y3
        go_wp2_with fail
        refine (l_valued _).mono ?_
        rintro e w22 ⟨rfl, hb22⟩
        have HB22 := hid (HI21.out.2.1.trans (hb22.mono (by have := HI21.out.2.1.size; omega)))
        clear hb22
        go_wp2_with fail
        go_ret
        exact ⟨rfl, HB22.out⟩
  · have hf2 : (er == 0) = false := by simpa using he
    have HCD := hid (show cdAns op n s f = [] by rw [cdAns, if_pos (by rw [GE.out]; exact he)])
    obtain rfl : sv = 0 := by rw [← GS.out, stAns, if_pos (by rw [GE.out]; exact he)]
    obtain rfl : ml = 0 := by rw [← HML.out, HCD.out]; rfl
    clear he
    go_upto_region 14 with (fail)
    generalize w14.alloc (.cells #[.int .i64 0, .int .i64 0, .string ⟨#[]⟩, .slice none 0 0] 28) = w16 at *
    have E16 := hid HEn.out
    have HWB16 := hid HWn.out
    have HWC16 := hid (show WdP w16 (cdAns op n s f) none from .inl HCD.out)
    have HSep := hid (show ∀ b, (none : Option Addr).map (·.block) = some b → b ≠ w14.heap.size from fun b hb => by simp at hb)
    have hz16 : w14.heap.size < w16.heap.size := by omega
    by_cases hc : ce = 0
    · skip
      have HI16 := hid (HI14.out.ext E16.out HSt.out)
      subst hc
      go_wp2_with fail
      refine (r_BackOf L lp lc _ HI16.out.2.2.2.1.1.1.1 (by have := HL.out.1; omega) HL.out.2.1 HL.out.2.2.1 HL.out.2.2.2 GC.out).mono ?_
      rintro e w17 ⟨⟨op', n', s', a', p', c', fa', rfl, hA', hr', h1', h2', _, hfa'⟩, hb17⟩
      have hAe : bkAns L = bkOf L := by rw [bkAns, if_neg (by rw [GC.out]; simp)]
      have hinj : F.cons bop bn bs ba .nil = F.cons op' n' s' a' .nil := by rw [← hA', ← hAe, HA.out]
      obtain ⟨rfl, rfl, rfl, rfl, _⟩ := F.cons.inj hinj
      rw [← hAe, GB.out]
      have E17 := hid (E16.out.trans (Ext.of_below hb17))
      have HWB17 := hid (stab_heap _ _ _ _ (Ext.of_below hb17) HWB16.out)
      have HWC17 := hid (stab_wd _ _ _ _ (Ext.of_below hb17) HWC16.out)
      have HRc := hid (And.intro h1' h2')
      have HR17 := hid (And.intro hr' (show ∀ b ∈ fa', b ≠ w14.heap.size from fun b hb => by have := hfa' b hb; have := hz16; omega))
      clear hb17 hA' hAe hinj hr' h1' h2' hfa'
      obtain ⟨⟨z0, z1, z2, z3⟩, g0, g1, g2, g3⟩ := blk4 HWB17.out
      go_upto_region 16 with (fail)
      have E18 := hid (set4_ext (a0 := .int .i64 bop) (a1 := .int .i64 bn) (a2 := .string bs) (a3 := .slice p' ba.len c') E17.out (b := w14.heap.size) (.inr (Nat.le_refl _)))
      have HS18 := hid (set4_ext (S := (· = w14.heap.size)) (a0 := .int .i64 bop) (a1 := .int .i64 bn) (a2 := .string bs) (a3 := .slice p' ba.len c') (Ext.refl w17) (b := w14.heap.size) (.inl rfl))
      have HWB18 := hid (set4_heap (a0 := .int .i64 bop) (a1 := .int .i64 bn) (a2 := .string bs) (a3 := .slice p' ba.len c') HWB17.out)
      have HRW18 := hid (HR17.out.1.ext HS18.out (fun b hb e => HR17.out.2 b hb e))
      have HWC18 := hid (HWC17.out.ext HS18.out (fun b hb e => HSep.out b hb e))
      clear z0 z1 z2 z3 g0 g1 g2 g3 E17 HWB17 HWC17 HR17 HS18 HI16
      generalize ((((w17.setCell ⟨w14.heap.size, 0, none⟩ (.int .i64 bop)).setCell ⟨w14.heap.size, 1, none⟩ (.int .i64 bn)).setCell ⟨w14.heap.size, 2, none⟩ (.string bs)).setCell ⟨w14.heap.size, 3, none⟩ (.slice p' ba.len c')) = w18 at *
      by_cases hs : se = 0
      · subst hs
        have HI18 := hid (HI14.out.ext E18.out HSt.out)
        have hor : orL [0, 0] = 0 := rfl
        obtain rfl : ot = 0 := by rw [← GO.out]; rfl
        go_wp2_with fail
        refine (r_ExecOf L lp lc T tp tc _ HI18.out.2.2.2.1.1.1.1 (by have := HL.out.1; omega) HL.out.2.1 HL.out.2.2.1 HL.out.2.2.2 GC.out HI18.out.2.2.2.1.1.1.2 HT.out.1 HT.out.2.1 HT.out.2.2.1 HT.out.2.2.2 (good_of_slErr _ _ GL.out)).mono ?_
        rintro e w19 ⟨⟨r, hr, rfl⟩, hb19⟩
        have hans : exAns L T = (r, (exL T L [] 0).2, 0) := by
          rw [exAns, if_neg (by rw [GC.out]; simp), if_neg (by rw [GL.out]; simp), hr]; rfl
        have hg := GX.out
        rw [hans] at hg
        obtain ⟨h1, h2, h3⟩ := hg
        dsimp only at h1 h2 h3
        subst h1 h2 h3
        have E19 := hid (E18.out.trans (Ext.of_below hb19))
        have HWB19 := hid (stab_heap _ _ _ _ (Ext.of_below hb19) HWB18.out)
        have HRW19 := hid (stab_rd _ _ _ _ _ (Ext.of_below hb19) HRW18.out)
        have HWC19 := hid (stab_wd _ _ _ _ (Ext.of_below hb19) HWC18.out)
        clear hb19 hr hans GX hor
        have GX := hid True.intro
        generalize (exL T L [] 0).2 = x2
        have HI19 := hid (HI14.out.ext E19.out HSt.out)
        have EQ := GX.out
        go_wp2_with fail
        refine (eqw (cdAns op n s f) _ HML.out _ _ _ _ _ HI19.out.2.2.2.1.1.2 HWC19.out (by have := HMl.out; omega)).mono ?_
        rintro e w20 ⟨rfl, hb20⟩
        have HI20 := hid (HI19.out.below hb20 HSt.out)
        have HWB20 := hid (stab_heap _ _ _ _ (Ext.of_below hb20) HWB19.out)
        have HRW20 := hid (stab_rd _ _ _ _ _ (Ext.of_below hb20) HRW19.out)
        clear hb20
        obtain ⟨⟨z0, z1, z2, z3⟩, _⟩ := blk4 HWB20.out
        obtain ⟨⟨y0, y1, y2, y3⟩, _⟩ := blk4 HI20.out.2.2.2.1.2.1
        go_wp2_with fail
        refine (same_w _ _ _ _ _ rfl _ _ _ _ _ _ _ HI20.out.2.2.2.1.2.2 HRW20.out HBk.out.2.1 HBk.out.2.2 HRc.out.1 HRc.out.2).mono ?_
        rintro e w21 ⟨rfl, hb21⟩
        have HI21 := hid (HI20.out.below hb21 HSt.out)
        clear hb21 z0 z1 z2 z3 y0 y1 y2 y3
        go_wp2_with fail
        refine (l_valued _).mono ?_
        rintro e w22 ⟨rfl, hb22⟩
        have HB22 := hid (HI21.out.2.1.trans (hb22.mono (by have := HI21.out.2.1.size; omega)))
        clear hb22
        go_wp2_with fail
        go_ret
        exact ⟨rfl, HB22.out⟩
      · skip
        obtain rfl : ot = se := by rw [← GO.out]; simp [orL, hs]
        have hs2 : (ot == 0) = false := by simpa using hs
        have hans : exAns L T = (0, 0, ot) := by rw [exAns, if_neg (by rw [GC.out]; simp), if_pos (by rw [GL.out]; exact hs), GL.out]
        have hg := GX.out
        rw [hans] at hg
        obtain ⟨h1, h2, h3⟩ := hg
        dsimp only at h1 h2 h3
        subst h1 h2 h3
        have E19 := E18
        have HWB19 := HWB18
        have HRW19 := HRW18
        have HWC19 := HWC18
        clear hans hs GX
        have GX := hid True.intro
        have HI19 := hid (HI14.out.ext E19.out HSt.out)
        have EQ := GX.out
        go_wp2_with fail
        refine (eqw (cdAns op n s f) _ HML.out _ _ _ _ _ HI19.out.2.2.2.1.1.2 HWC19.out (by have := HMl.out; omega)).mono ?_
        rintro e w20 ⟨rfl, hb20⟩
        have HI20 := hid (HI19.out.below hb20 HSt.out)
        have HWB20 := hid (stab_heap _ _ _ _ (Ext.of_below hb20) HWB19.out)
        have HRW20 := hid (stab_rd _ _ _ _ _ (Ext.of_below hb20) HRW19.out)
        clear hb20
        obtain ⟨⟨z0, z1, z2, z3⟩, _⟩ := blk4 HWB20.out
        obtain ⟨⟨y0, y1, y2, y3⟩, _⟩ := blk4 HI20.out.2.2.2.1.2.1
        go_wp2_with fail
        refine (same_w _ _ _ _ _ rfl _ _ _ _ _ _ _ HI20.out.2.2.2.1.2.2 HRW20.out HBk.out.2.1 HBk.out.2.2 HRc.out.1 HRc.out.2).mono ?_
        rintro e w21 ⟨rfl, hb21⟩
        have HI21 := hid (HI20.out.below hb21 HSt.out)
        clear hb21 z0 z1 z2 z3 y0 y1 y2 y3
        go_wp2_with fail
        refine (l_valued _).mono ?_
        rintro e w22 ⟨rfl, hb22⟩
        have HB22 := hid (HI21.out.2.1.trans (hb22.mono (by have := HI21.out.2.1.size; omega)))
        clear hb22
        go_wp2_with fail
        go_ret
        exact ⟨rfl, HB22.out⟩
    · skip
      have hc2 : (ce == 0) = false := by simpa using hc
      obtain rfl : ot = ce := by rw [← GO.out]; simp [orL, hc]
      have hbk : bkAns L = (zeroE, ot) := by rw [bkAns, if_pos (by rw [GC.out]; exact hc), GC.out]
      obtain rfl : b2 = ot := by have h := GB.out; rw [hbk] at h; exact h.symm
      have hinj : F.cons bop bn bs ba .nil = F.cons 0 0 ⟨#[]⟩ .nil .nil := by rw [← HA.out, hbk]; rfl
      obtain ⟨rfl, rfl, rfl, rfl, _⟩ := F.cons.inj hinj
      have hans : exAns L T = (0, 0, b2) := by rw [exAns, if_pos (by rw [GC.out]; exact hc), GC.out]
      have hg := GX.out
      rw [hans] at hg
      obtain ⟨h1, h2, h3⟩ := hg
      dsimp only at h1 h2 h3
      subst h1 h2 h3
      have E19 := E16
      have HWB19 := HWB16
      have HWC19 := HWC16
      have HRW19 := hid (show RdP w16 .nil none [] from .inl ⟨rfl, rfl⟩)
      have HRc := hid (show F.nil.len ≤ 0 ∧ (0 : Nat) ≤ 9223372036854775807 from ⟨by simp [F.len], by omega⟩)
      clear hc hbk hinj hans GX
      have GX := hid True.intro
      have HI19 := hid (HI14.out.ext E19.out HSt.out)
      have EQ := GX.out
      go_wp2_with fail
      refine (eqw (cdAns op n s f) _ HML.out _ _ _ _ _ HI19.out.2.2.2.1.1.2 HWC19.out (by have := HMl.out; omega)).mono ?_
      rintro e w20 ⟨rfl, hb20⟩
      have HI20 := hid (HI19.out.below hb20 HSt.out)
      have HWB20 := hid (stab_heap _ _ _ _ (Ext.of_below hb20) HWB19.out)
      have HRW20 := hid (stab_rd _ _ _ _ _ (Ext.of_below hb20) HRW19.out)
      clear hb20
      obtain ⟨⟨z0, z1, z2, z3⟩, _⟩ := blk4 HWB20.out
      obtain ⟨⟨y0, y1, y2, y3⟩, _⟩ := blk4 HI20.out.2.2.2.1.2.1
      go_wp2_with fail
      refine (same_w _ _ _ _ _ rfl _ _ _ _ _ _ _ HI20.out.2.2.2.1.2.2 HRW20.out HBk.out.2.1 HBk.out.2.2 HRc.out.1 HRc.out.2).mono ?_
      rintro e w21 ⟨rfl, hb21⟩
      have HI21 := hid (HI20.out.below hb21 HSt.out)
      clear hb21 z0 z1 z2 z3 y0 y1 y2 y3
      go_wp2_with fail
      refine (l_valued _).mono ?_
      rintro e w22 ⟨rfl, hb22⟩
      have HB22 := hid (HI21.out.2.1.trans (hb22.mono (by have := HI21.out.2.1.size; omega)))
      clear hb22
      go_wp2_with fail
      go_ret
      exact ⟨rfl, HB22.out⟩
end Go.Proofs.YtckbhlnncokigaaGreat
