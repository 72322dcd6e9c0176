/- Texts joined: VEval, VRul1P, VRul1. -/
import Derived.Test.YtkgciohebloffaaGreatJS28
import Derived.Test.YtkgciohebloffaaGreatJS29
import Derived.Test.YtkgciohebloffaaGreatJS21
import Derived.Test.YtkgciohebloffaaGreatJS31
import Derived.Test.YtkgciohebloffaaGreatJS13
import Derived.Test.YtkgciohebloffaaGreatJS25
import Derived.Test.YtkgciohebloffaaGreatJS22
/- Eval, the program's; and what the laws ask of it beforehand. -/
namespace Go.Proofs.YtkgciohebloffaaGreat
open Go.RowKit

/-- Block lb holds the slots that a closure asks. -/
def AsksS (w : World) (lb : Nat) (L : List (ByteArray × Int)) (lp : Option Addr) (lc : Nat) : Prop := w.cell? ⟨lb, 0, none⟩ = some (.slice lp L.length lc) ∧ SlP w L lp
theorem AsksS.ext {w w' : World} {lb : Nat} {L : List (ByteArray × Int)} {lp : Option Addr} {lc : Nat} (h : AsksS w lb L lp lc) (e : Ext (fun _ => False) w w') : AsksS w' lb L lp lc :=
  ⟨e.cell_some h.1 id, h.2.ext e (fun _ _ => id)⟩

set_option maxRecDepth 100000 in
set_option maxHeartbeats 4000000 in
theorem v_slot1 (L : List (ByteArray × Int)) (lp : Option Addr) (lc : Nat) (s : ByteArray) (lb : Nat) (w : World) (ha : AsksS w lb L lp lc) (hl : L.length ≤ 4) (hlc : L.length ≤ lc) (hcm : lc ≤ maxLen) (hr : Rising (slKeys L)) :
    Calls Tryz.prog 109 #[.string s, .pointer (some ⟨lb, 0, none⟩)] w fun e w' => e = .returned (.int .i64 (valL s.data.toList L)) ∧ Below w.heap.size w w' := by
  have HP := hid ha.2
  have HR := hid hr
  have hlb : lb < w.heap.size := World.block_lt_of_cell? _ _ ha.1
  have hcl := ha.1
  clear ha hr
  go_enter Tryz.func109, Tryz.ntmps109
  go_wp2_with fail
  refine (s_find L lp lc s _ HP.out hl hlc hcm HR.out).mono ?_
  rintro e w2 ⟨⟨x, b, rfl, hx⟩, hb⟩
  have HB2 := hid hb
  have HX := hid hx
  clear hb hx
  go_wp2_with fail
  go_ret
  exact ⟨ret_int HX.out.symm, HB2.out.alloc HB2.out.size _⟩

set_option maxHeartbeats 1000000 in
theorem v_slotValues (L : List (ByteArray × Int)) (lp : Option Addr) (lc : Nat) (w : World) (hp : SlP w L lp) :
    Calls Tryz.prog 58 #[.slice lp L.length lc] w fun e w' => e = .returned (.func (.func 109) #[] #[.pointer (some ⟨w.heap.size, 0, none⟩)]) ∧ AsksS w' w.heap.size L lp lc ∧ Below w.heap.size w w' := by
  have HP := hid (hp.ext (S := fun _ => False) ((Ext.refl w).alloc (.cells #[.slice lp L.length lc] 30)) (fun _ _ => id))
  clear hp
  go_enter Tryz.func58, Tryz.ntmps58
  go_wp2_with fail
  go_ret
  exact ⟨rfl, ⟨by have h := cell_of_row _ _ 0 _ _ _ (heap_new w (.cells #[.slice lp L.length lc] 30)); rw [h]; rfl, HP.out⟩, alloc_below _ _⟩
theorem of_slots {L : List (ByteArray × Int)} {lp : Option Addr} {lc lb : Nat} {w : World} (ha : AsksS w lb L lp lc) (hl : L.length ≤ 4) (hlc : L.length ≤ lc) (hcm : lc ≤ maxLen) (hr : Rising (slKeys L)) (hg : SlGood L) :
    OfOk w (.func (.func 109) #[] #[.pointer (some ⟨lb, 0, none⟩)]) fun s => valL s.data.toList L :=
  ⟨_, _, rfl, enters_of Tryz.func109 (by kernel_rfl) rfl, fun s => valL_in _ L 0 hg ⟨by omega, by omega⟩, fun W hW s => v_slot1 L lp lc s lb W (ha.ext hW) hl hlc hcm hr⟩
theorem valG_L (L : List (ByteArray × Int)) : ∀ a : F, valG (fun s => valL s.data.toList L) a = valF L a
  | .nil => rfl
  | .cons op n s a r => by
    rw [valG_cons, valF_cons, valG_L L r]
    unfold valEG valE
    rw [valG_L L a]
theorem valEG_L (L : List (ByteArray × Int)) (op n : Int) (s : ByteArray) (a : F) : valEG (fun s => valL s.data.toList L) op n s a = valE L op n s a := by
  unfold valEG valE; rw [valG_L]

/-- Slots without an error rise. -/
theorem rising_of_slErr : ∀ (p : Option ByteArray) (L : List (ByteArray × Int)), slErr' p L = 0 → Rising (slKeys L) ∧ (∀ y, p = some y → ∀ x ∈ L, y.data.toList < x.1.data.toList)
  | p, [], _ => ⟨trivial, fun y _ x hx => by simp at hx⟩
  | p, x :: r, h => by
    rw [slErr_cons] at h
    split at h
    · cases h
    split at h
    · cases h
    split at h
    · cases h
    rename_i h1 h2 h3
    obtain ⟨g1, g2⟩ := rising_of_slErr _ r h
    refine ⟨⟨fun z hz => ?_, g1⟩, fun y hy z hz => ?_⟩
    · simp only [List.mem_map] at hz
      obtain ⟨u, hu, rfl⟩ := hz
      exact g2 x.1 rfl u hu
    · subst hy
      have hlt : y.data.toList < x.1.data.toList := by
        simp only [Option.elim, Bool.or_eq_true, not_or] at h3
        obtain ⟨h4, h5⟩ := h3
        rw [bl_lt, Lib.toList_data, Lib.toList_data] at h4
        rw [Lib.toList_data, Lib.toList_data] at h5
        have h6 : ¬ x.1.data.toList < y.data.toList := by simpa using h4
        have h7 : x.1.data.toList ≠ y.data.toList := by simpa using h5
        rcases Std.lt_trichotomy (α := List UInt8) y.data.toList x.1.data.toList with k | k | k
        · exact k
        · exact absurd k.symm h7
        · exact absurd k h6
      rcases List.mem_cons.1 hz with rfl | hz
      · exact hlt
      · exact List.lt_trans hlt (g2 x.1 rfl z hz)

theorem ret_pair {a b : Int} {t : Int × Int} (h : (a, b) = t) : Ending.returned (.tuple #[.int .i64 a, .int .i64 b]) = .returned (.tuple #[.int .i64 t.1, .int .i64 t.2]) := by cases h; rfl
set_option maxRecDepth 100000 in
set_option maxHeartbeats 4000000 in
theorem v_Eval (op n : Int) (s : ByteArray) (a : F) (p : Option Addr) (c : Nat) (fa : List Nat) (L : List (ByteArray × Int)) (lp : Option Addr) (lc : Nat) (w : World) (h1 : RdP w a p fa) (h2 : a.len ≤ c) (h3 : c ≤ 9223372036854775807) (h4 : (F.cons op n s a .nil).Fits) (h5 : SlP w L lp) (h6 : L.length ≤ 4) (h7 : L.length ≤ lc) (h8 : lc ≤ maxLen) (h9 : ∀ x ∈ L, SlOk x) :
      Calls Tryz.prog 11 #[.agg #[.int .i64 op, .int .i64 n, .string s, .slice p a.len c], .slice lp L.length lc] w fun e w' => e = .returned (.tuple #[.int .i64 (valAns L op n s a).1, .int .i64 (valAns L op n s a).2]) ∧ Below w.heap.size w w' := by
  have E1 := (Ext.refl (S := fun _ => False) w).alloc (.cells #[.int .i64 op, .int .i64 n, .string s, .slice p a.len c] 28)
  have HX := hid (And.intro (h1.ext E1 (fun _ _ => id)) (And.intro (h5.ext E1 (fun _ _ => id)) (And.intro h4 h9)))
  have HN := hid (heap_new w (.cells #[.int .i64 op, .int .i64 n, .string s, .slice p a.len c] 28))
  have HB := hid (alloc_below w (.cells #[.int .i64 op, .int .i64 n, .string s, .slice p a.len c] 28))
  have hz1 : w.heap.size + 1 = (w.alloc (.cells #[.int .i64 op, .int .i64 n, .string s, .slice p a.len c] 28)).heap.size := by simp
  clear h1 h5 h4 h9 E1
  go_enter Tryz.func11, Tryz.ntmps11
  go_wp2_with fail
  generalize w.alloc (.cells #[.int .i64 op, .int .i64 n, .string s, .slice p a.len c] 28) = w1 at *
  refine (p_CheckExpr op n s a p c fa _ HX.out.1 h2 h3 HX.out.2.2.1).mono ?_
  rintro e w2 ⟨rfl, hb2⟩
  have E2 := Ext.of_below (S := fun _ => False) hb2
  have HX2 := hid (And.intro (HX.out.1.ext E2 (fun _ _ => id)) (And.intro (HX.out.2.1.ext E2 (fun _ _ => id)) HX.out.2.2))
  have HN2 := hid (E2.heap HN.out id)
  have HB2 := hid (below_ext HB.out E2 (by omega))
  have hz2 : w.heap.size + 1 ≤ w2.heap.size := by have := E2.size; omega
  clear HX HN HB E2 hb2
  generalize hge : errE op n s a 1 = er
  have GE := hid hge
  clear hge
  by_cases he : er = 0
  case neg =>
    have hne : (er != 0) = true := by simpa using he
    have HA := hid (show valAns L op n s a = (0, er) by rw [valAns, if_pos (by rw [GE.out]; exact he), GE.out])
    clear he
    go_wp2_with fail
    go_ret2
    exact ⟨ret_pair (a := 0) (b := er) HA.out.symm, HB2.out⟩
  subst he
  go_wp2_with fail
  refine (s_CheckSlots L lp lc _ HX2.out.2.1 h6 h7 h8 HX2.out.2.2.2).mono ?_
  rintro e w3 ⟨rfl, hb3⟩
  have E3 := Ext.of_below (S := fun _ => False) hb3
  have HX3 := hid (And.intro (HX2.out.1.ext E3 (fun _ _ => id)) (And.intro (HX2.out.2.1.ext E3 (fun _ _ => id)) HX2.out.2.2))
  have HN3 := hid (E3.heap HN2.out id)
  have HB3 := hid (below_ext HB2.out E3 (by omega))
  have hz3 : w.heap.size + 1 ≤ w3.heap.size := by have := E3.size; omega
  clear HX2 HN2 HB2 E3 hb3
  generalize hgs : slErr' none L = es
  have GS := hid hgs
  clear hgs
  by_cases he : es = 0
  case neg =>
    have hne : (es != 0) = true := by simpa using he
    have HA := hid (show valAns L op n s a = (0, es) by
      have g : slErr ⟨#[]⟩ L = es := GS.out
      rw [valAns, if_neg (by rw [GE.out]; simp), if_pos (by rw [g]; exact he), g])
    clear he
    go_wp2_with fail
    go_ret2
    exact ⟨ret_pair (a := 0) (b := es) HA.out.symm, HB3.out⟩
  subst he
  have HA := hid (show valAns L op n s a = (valE L op n s a, 0) by
    have g : slErr ⟨#[]⟩ L = 0 := GS.out
    rw [valAns, if_neg (by rw [GE.out]; simp), if_neg (by rw [g]; simp)])
  obtain ⟨⟨q0, q1, q2, q3⟩, _⟩ := blk4 HN3.out
  go_wp2_with fail
  refine (v_compile (a.size + 1) op n s a p c fa _ (by omega) HX3.out.1 h2 h3 HX3.out.2.2.1 (small_of_errE GE.out)).mono ?_
  rintro e w4 ⟨⟨v4, rfl, hm4⟩, hb4⟩
  have E4 := hid (Ext.of_below (S := fun _ => False) hb4)
  have HB4 := hid (below_ext HB3.out E4.out (by omega))
  have HP4 := hid (HX3.out.2.1.ext E4.out (fun _ _ => id))
  have HM4 := hid hm4
  clear hb4 hm4 q0 q1 q2 q3
  obtain ⟨kv, cv, rfl, hkv, hcv⟩ := HM4.out
  unfold Enters at hkv
  have HC4 := hid hcv
  clear hcv HM4
  go_wp2_with fail
  refine (v_slotValues L lp lc _ HP4.out).mono ?_
  rintro e w5 ⟨rfl, hask, hb5⟩
  have E5 := hid (Ext.of_below (S := fun _ => False) hb5)
  have HB5 := hid (below_ext HB4.out E5.out (by have := HB4.out.size; omega))
  have HO5 := hid (of_slots hask h6 h7 h8 (rising_of_slErr _ _ GS.out).1 (good_of_slErr _ _ GS.out))
  clear hb5 hask
  go_wp2_with fail
  have HV := hid (HC4.out _ _ w5 (.of_ext E5.out) HO5.out).2
  rw [valEG_L] at HV
  generalize valE L op n s a = va at HV HA
  refine HV.out.mono ?_
  rintro e w6 ⟨rfl, hb6⟩
  have HB6 := hid (below_ext HB5.out (Ext.of_below hb6) (by have := HB5.out.size; omega))
  clear hb6
  go_wp2_with fail
  go_ret2
  exact ⟨ret_pair (a := va) (b := 0) HA.out.symm, HB6.out⟩
end Go.Proofs.YtkgciohebloffaaGreat
/- Whether all are numbers, an argument after the other. -/
namespace Go.Proofs.YtkgciohebloffaaGreat
open Go.RowKit

theorem allNum_drop {a : F} {k : Nat} {op n : Int} {s : ByteArray} {b : F} (h : a.drop k = .cons op n s b (a.drop (k + 1))) : allNum (a.drop k) = (op == 1 && allNum (a.drop (k + 1))) := by rw [h]; rfl
end Go.Proofs.YtkgciohebloffaaGreat
/- allNumbers, the program's. -/
namespace Go.Proofs.YtkgciohebloffaaGreat
open Go.RowKit

set_option maxHeartbeats 1000000 in
theorem v_other (op n : Int) (s : ByteArray) (q : Option Addr) (l c : Nat) (w : World) :
    Calls Tryz.prog 208 #[.agg #[.int .i64 op, .int .i64 n, .string s, .slice q l c]] w fun e w' => e = .returned (.bool (op != 1)) ∧ Below w.heap.size w w' := by
  go_enter Tryz.func208, Tryz.ntmps208
  go_wp2_with fail
  go_ret
  exact ⟨rfl, alloc_below _ _⟩

set_option maxRecDepth 100000 in
set_option maxHeartbeats 4000000 in
theorem v_indexOther (a : F) (p : Option Addr) (c : Nat) (fa : List Nat) (w : World) (hbig : a.len ≤ 100000) (hp : RdP w a p fa) (_hac : a.len ≤ c) (_hc : c ≤ 9223372036854775807) :
    Calls Tryz.prog 222 #[.slice p a.len c, .func (.func 208) #[] #[]] w fun e w' => (∃ i : Int, e = .returned (.int .i64 i) ∧ decide (i ≥ 0) = !allNum a) ∧ Below w.heap.size w w' := by
  have HP := hid hp
  have hal : (a.len : Int) ≤ 100000 := by omega
  clear hp
  go_enter Tryz.func222, Tryz.ntmps222
  go_wp2_with fail
  go_loopw [8] (fun i wr => ∃ k : Nat, k ≤ a.len ∧ i = .int .i64 k ∧ allNum a = allNum (a.drop k) ∧ Below w.heap.size w wr) (fun i _ => a.len - (intOf i).toNat)
  case atStart => exact ⟨0, by omega, rfl, rfl, Below.refl _ _⟩
  case round =>
    obtain ⟨k, hk, rfl, hj, hbl⟩ := hrel
    have HJ := hid hj
    have HB := hid hbl
    have hzr : w.heap.size ≤ wr.heap.size := hbl.size
    have hpr : RdP wr a p fa := HP.out.ext (S := fun _ => False) (Ext.of_below hbl) (fun _ _ => id)
    clear hj hbl
    by_cases hlt : k < a.len
    · obtain ⟨b, o, op, n, s, a', p', c', fa', rfl, hd, y0, y1, y2, y3, _⟩ := hpr.arg hlt
      have HN := hid (show allNum a = (op == 1 && allNum (a.drop (k + 1))) by rw [HJ.out, allNum_drop hd])
      clear hd
      go_wp2_with fail
      refine (v_other op n s p' a'.len c' _).mono ?_
      rintro e w3 ⟨rfl, hb3⟩
      have HB3 := hid (HB.out.trans (hb3.mono hzr))
      clear hb3
      by_cases h1 : op = 1
      · have e1 : (op != 1) = false := by simp [h1]
        have HN2 := hid (show allNum a = allNum (a.drop (k + 1)) by rw [HN.out]; simp [h1])
        clear h1
        rw [e1]
        go_wp2_with fail
        go_roundw
        case rel => exact ⟨k + 1, by omega, by go_num, HN2.out, HB3.out⟩
        case measure => simp [intOf]; omega
      · have e1 : (op != 1) = true := by simpa using h1
        have HN2 := hid (show allNum a = false by rw [HN.out]; simp [h1])
        clear h1
        rw [e1]
        go_wp2_with fail
        go_ret
        exact ⟨⟨(k : Int), rfl, by rw [HN2.out]; simp⟩, HB3.out⟩
    · have HN2 := hid (show allNum a = true by rw [HJ.out, F.eq_nil_of_len (f := a.drop k) (by rw [F.len_drop]; omega)]; rfl)
      clear hpr
      go_wp2_with fail
      go_ret
      exact ⟨⟨-1, rfl, by rw [HN2.out]; rfl⟩, HB.out⟩

set_option maxHeartbeats 1000000 in
theorem v_containsOther (a : F) (p : Option Addr) (c : Nat) (fa : List Nat) (w : World) (hbig : a.len ≤ 100000) (hp : RdP w a p fa) (hac : a.len ≤ c) (hc : c ≤ 9223372036854775807) :
    Calls Tryz.prog 209 #[.slice p a.len c, .func (.func 208) #[] #[]] w fun e w' => e = .returned (.bool (!allNum a)) ∧ Below w.heap.size w w' := by
  have HP := hid hp
  clear hp
  go_enter Tryz.func209, Tryz.ntmps209
  go_wp2_with fail
  refine (v_indexOther a p c fa _ hbig HP.out hac hc).mono ?_
  rintro e w3 ⟨⟨i, rfl, hi⟩, hb3⟩
  have HI := hid hi
  clear hi
  go_wp2_with fail
  go_ret
  exact ⟨ret_bool HI.out, hb3⟩

theorem valG_nums (f : ByteArray → Int) : ∀ a : F, allNum a = true → valG f a = numsF a
  | .nil, _ => rfl
  | .cons op n s a r, h => by
    simp only [allNum, Bool.and_eq_true] at h
    have h1 : op = 1 := by simpa using h.1
    simp only [valG, numsF, valG_nums f r h.2, h1, if_true]

set_option maxRecDepth 100000 in
set_option maxHeartbeats 4000000 in
theorem v_allNumbers (op n : Int) (s : ByteArray) (a : F) (p : Option Addr) (c : Nat) (fa : List Nat) (w : World) (hs : (F.cons op n s a .nil).Small) (hf : (F.cons op n s a .nil).Fits) (hp : RdP w a p fa) (hac : a.len ≤ c) (hc : c ≤ 9223372036854775807) :
    Calls Tryz.prog 180 #[.agg #[.int .i64 op, .int .i64 n, .string s, .slice p a.len c]] w (GotRule fa (rule1 op a) w) := by
  have EZ := hid (((Ext.refl (S := fun _ => False) w).alloc (.cells #[.int .i64 op, .int .i64 n, .string s, .slice p a.len c] 28)).alloc (.cells #[.int .i64 0, .int .i64 0, .string ⟨#[]⟩, .slice none 0 0] 28))
  obtain ⟨HB, HR⟩ : Hid ((((w.alloc (.cells #[.int .i64 op, .int .i64 n, .string s, .slice p a.len c] 28)).alloc (.cells #[.int .i64 0, .int .i64 0, .string ⟨#[]⟩, .slice none 0 0] 28))).heap[w.heap.size]? = some (.cells #[.int .i64 op, .int .i64 n, .string s, .slice p a.len c] 28 (0, 0))) ∧ Hid ((((w.alloc (.cells #[.int .i64 op, .int .i64 n, .string s, .slice p a.len c] 28)).alloc (.cells #[.int .i64 0, .int .i64 0, .string ⟨#[]⟩, .slice none 0 0] 28))).heap[w.heap.size + 1]? = some (.cells #[.int .i64 0, .int .i64 0, .string ⟨#[]⟩, .slice none 0 0] 28 (0, 0))) := by
    have h1 := heap_new w (.cells #[.int .i64 op, .int .i64 n, .string s, .slice p a.len c] 28)
    have h2 := heap_new (w.alloc (.cells #[.int .i64 op, .int .i64 n, .string s, .slice p a.len c] 28)) (.cells #[.int .i64 0, .int .i64 0, .string ⟨#[]⟩, .slice none 0 0] 28)
    rw [show (w.alloc (.cells #[.int .i64 op, .int .i64 n, .string s, .slice p a.len c] 28)).heap.size = w.heap.size + 1 by simp] at h2
    exact ⟨hid (((Ext.refl (S := fun _ => False) _).alloc _).heap h1 id), hid h2⟩
  have HP := hid (hp.ext EZ.out (fun _ _ => id))
  have HBZ := hid (show Below w.heap.size w ((w.alloc (.cells #[.int .i64 op, .int .i64 n, .string s, .slice p a.len c] 28)).alloc (.cells #[.int .i64 0, .int .i64 0, .string ⟨#[]⟩, .slice none 0 0] 28)) from (alloc_below w _).alloc (by simp) _)
  have hal3 : a.len ≤ 3 := by
    have h1 := hs.1.2.2
    have : ar op ≤ 3 := by unfold ar; (repeat' split) <;> omega
    omega
  have hal : (a.len : Int) ≤ 3 := by omega
  have HS := hid (And.intro hs hf)
  clear hp hs hf
  obtain ⟨⟨c0, c1, c2, c3⟩, _⟩ := blk4 HB.out
  obtain ⟨⟨z0, z1, z2, z3⟩, f0, f1, f2, f3⟩ := blk4 HR.out
  have hz0 : w.heap.size + 2 = ((w.alloc (.cells #[.int .i64 op, .int .i64 n, .string s, .slice p a.len c] 28)).alloc (.cells #[.int .i64 0, .int .i64 0, .string ⟨#[]⟩, .slice none 0 0] 28)).heap.size := by simp
  by_cases hnil : a.len = 0
  · have hn0 : ((a.len : Int) == 0) = true := by simp; omega
    have HO := hid (show rule1 op a = none by unfold rule1; rw [hnil]; rfl)
    clear hnil
    go_enter Tryz.func180, Tryz.ntmps180
    go_wp2_with fail
    exact bodyPost_ret (v := .tuple #[.agg #[.int .i64 0, .int .i64 0, .string ⟨#[]⟩, .slice none 0 0], .bool false]) (by simp [results, Tryz.results180, go_sem]) rfl (none_got HO.out HBZ.out)
  · have hn0 : ((a.len : Int) == 0) = false := by simp; omega
    have HR1 := hid (show rule1 op a = if (!allNum a) = true then none else some (numF (compV op (numsF a))) by unfold rule1; rw [show (a.len == 0) = false by simpa using hnil, Bool.false_or])
    have HNN := hid hnil
    clear hnil
    go_enter Tryz.func180, Tryz.ntmps180
    go_wp2_with fail
    refine (v_containsOther a p c fa _ (by omega) HP.out hac hc).mono ?_
    rintro e w3 ⟨rfl, hb3⟩
    have E3 := hid (Ext.of_below (S := fun _ => False) hb3)
    have HB3 := hid (below_ext HBZ.out E3.out (by simp; omega))
    have HP3 := hid (HP.out.ext E3.out (fun _ _ => id))
    have HR3 := hid (E3.out.heap HR.out id)
    have hz3 : w.heap.size + 2 ≤ w3.heap.size := by have := E3.out.size; omega
    obtain ⟨⟨c0, c1, c2, c3⟩, _⟩ := blk4 (E3.out.heap HB.out id)
    obtain ⟨⟨z0, z1, z2, z3⟩, f0, f1, f2, f3⟩ := blk4 HR3.out
    clear hb3
    cases hnum : allNum a with
    | false =>
      have HO := hid (show rule1 op a = none by rw [HR1.out, hnum]; rfl)
      clear hnum
      go_wp2_with fail
      obtain ⟨W, hW, u0, u1, u2, u3, eW⟩ := set4_all (a0 := .int .i64 0) (a1 := .int .i64 0) (a2 := .string ⟨#[]⟩) (a3 := .slice none 0 0) z0 z1 z2 z3
      rw [hW]
      exact bodyPost_ret (v := .tuple #[.agg #[.int .i64 0, .int .i64 0, .string ⟨#[]⟩, .slice none 0 0], .bool false]) (by simp [results, Tryz.results180, go_sem, u0, u1, u2, u3]) rfl (none_got HO.out (below_at HB3.out eW (by omega) (by omega)))
    | true =>
      have HO := hid (show rule1 op a = some (numF (compV op (numsF a))) by rw [HR1.out, hnum]; rfl)
      have HV := hid (show ∀ f, valEG f op n s a = compV op (numsF a) from fun f => by
        have h1 : op ≠ 1 ∧ op ≠ 2 := by
          have h := HS.out.1.1.2.2
          constructor <;> (intro h'; subst h'; simp [ar] at h; exact HNN.out (by omega))
        unfold valEG
        rw [if_neg h1.1, if_neg h1.2, valG_nums f a hnum])
      clear hnum
      go_wp2_with fail
      refine (v_compile (a.size + 1) op n s a p c fa _ (by omega) HP3.out hac hc HS.out.2 HS.out.1).mono ?_
      rintro e w4 ⟨⟨v4, rfl, hm4⟩, hb4⟩
      have E4 := hid (Ext.of_below (S := fun _ => False) hb4)
      have HB4 := hid (below_ext HB3.out E4.out (by omega))
      have hz4 : w.heap.size + 2 ≤ w4.heap.size := by have := E4.out.size; omega
      have HM4 := hid hm4
      clear hb4 hm4
      obtain ⟨kv, cv, rfl, hkv, hcv⟩ := HM4.out
      unfold Enters at hkv
      have HC4 := hid hcv
      clear hcv HM4
      go_wp2_with fail
      refine (v_slotValues [] none 0 _ (.inl rfl)).mono ?_
      rintro e w5 ⟨rfl, hask, hb5⟩
      have E5 := hid (Ext.of_below (S := fun _ => False) hb5)
      have HB5 := hid (below_ext HB4.out E5.out (by omega))
      have HO5 := hid (of_slots hask (by simp) (by simp) (by unfold maxLen; omega) (by simp [slKeys, Rising]) (fun x hx => by simp at hx))
      clear hb5 hask
      go_wp2_with fail
      have HVc := hid (HC4.out _ _ w5 (.of_ext E5.out) HO5.out).2
      rw [HV.out] at HVc
      generalize compV op (numsF a) = va at HVc HO
      refine HVc.out.mono ?_
      rintro e w6 ⟨rfl, hb6⟩
      have E6 := hid (Ext.of_below (S := fun _ => False) hb6)
      have HB6 := hid (below_ext HB5.out E6.out (by have := HB5.out.size; omega))
      clear hb6
      go_wp2_with fail
      refine (v_number va _).mono ?_
      rintro e w7 ⟨rfl, hb7⟩
      have E7 := hid (E4.out.trans (E5.out.trans (E6.out.trans (Ext.of_below hb7))))
      have HB7 := hid (below_ext HB3.out E7.out (by omega))
      obtain ⟨⟨z0, z1, z2, z3⟩, f0, f1, f2, f3⟩ := blk4 (E7.out.heap HR3.out id)
      have hz7 : w.heap.size + 2 ≤ w7.heap.size := by have := E7.out.size; omega
      clear hb7
      go_wp2_with fail
      obtain ⟨u0, u1, u2, u3⟩ := set4 (a0 := .int .i64 1) (a1 := .int .i64 va) (a2 := .string ⟨#[]⟩) (a3 := .slice none 0 0) z0 z1 z2 z3
      have e4' := set4_ext (S := (· = w.heap.size + 1)) (a0 := .int .i64 1) (a1 := .int .i64 va) (a2 := .string ⟨#[]⟩) (a3 := .slice none 0 0) (Ext.refl w7) (b := w.heap.size + 1) (.inl rfl)
      exact bodyPost_ret (v := .tuple #[.agg #[.int .i64 1, .int .i64 va, .string ⟨#[]⟩, .slice none 0 0], .bool true]) (by simp [results, Tryz.results180, go_sem, u0, u1, u2, u3]) rfl (num_got (eq := true) HO.out (e4'.below HB7.out (fun i hi e => by omega)))
end Go.Proofs.YtkgciohebloffaaGreat
