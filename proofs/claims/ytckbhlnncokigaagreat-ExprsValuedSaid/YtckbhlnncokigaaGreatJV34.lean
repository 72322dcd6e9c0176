/- Texts joined: VEval. -/
import Derived.Test.YtckbhlnncokigaaGreatJV22
import Derived.Test.YtckbhlnncokigaaGreatJV26
import Derived.Test.YtckbhlnncokigaaGreatJV27
import Derived.Test.YtckbhlnncokigaaGreatJV33
/- Eval, the program's; and what the laws ask of it beforehand. -/
namespace Go.Proofs.YtckbhlnncokigaaGreat
open Go.RowKit

/-- Block lb holds the slots that a closure asks. -/
def AsksS (w : World) (lb : Nat) (L : List (ByteArray × Int)) (lp : Option Addr) (lc : Nat) : Prop := w.cell? ⟨lb, 0, none⟩ = some (.slice lp L.length lc) ∧ SlP w L lp
theorem AsksS.ext {w w' : World} {lb : Nat} {L : List (ByteArray × Int)} {lp : Option Addr} {lc : Nat} (h : AsksS w lb L lp lc) (e : Ext (fun _ => False) w w') : AsksS w' lb L lp lc :=
  ⟨e.cell_some h.1 id, h.2.ext e (fun _ _ => id)⟩

set_option maxRecDepth 100000 in
set_option maxHeartbeats 4000000 in
theorem v_slot1 (L : List (ByteArray × Int)) (lp : Option Addr) (lc : Nat) (s : ByteArray) (lb : Nat) (w : World) (ha : AsksS w lb L lp lc) (hl : L.length ≤ 4) (hlc : L.length ≤ lc) (hcm : lc ≤ maxLen) (hr : Rising (slKeys L)) :
    Calls Tryz.prog 109 #[.string s, .pointer (some ⟨lb, 0, none⟩)] w fun e w' => e = .returned (.int .i64 (valL s.data.toList L)) ∧ Below w.heap.size w w' := by
  have HP := hid ha.2
  have HR := hid hr
  have hlb : lb < w.heap.size := World.block_lt_of_cell? _ _ ha.1
  have hcl := ha.1
  clear ha hr
  go_enter Tryz.func109, Tryz.ntmps109
  go_wp2_with fail
  refine (s_find L lp lc s _ HP.out hl hlc hcm HR.out).mono ?_
  rintro e w2 ⟨⟨x, b, rfl, hx⟩, hb⟩
  have HB2 := hid hb
  have HX := hid hx
  clear hb hx
  go_wp2_with fail
  go_ret
  exact ⟨ret_int HX.out.symm, HB2.out.alloc HB2.out.size _⟩

set_option maxHeartbeats 1000000 in
theorem v_slotValues (L : List (ByteArray × Int)) (lp : Option Addr) (lc : Nat) (w : World) (hp : SlP w L lp) :
    Calls Tryz.prog 58 #[.slice lp L.length lc] w fun e w' => e = .returned (.func (.func 109) #[] #[.pointer (some ⟨w.heap.size, 0, none⟩)]) ∧ AsksS w' w.heap.size L lp lc ∧ Below w.heap.size w w' := by
  have HP := hid (hp.ext (S := fun _ => False) ((Ext.refl w).alloc (.cells #[.slice lp L.length lc] 30)) (fun _ _ => id))
  clear hp
  go_enter Tryz.func58, Tryz.ntmps58
  go_wp2_with fail
  go_ret
  exact ⟨rfl, ⟨by have h := cell_of_row _ _ 0 _ _ _ (heap_new w (.cells #[.slice lp L.length lc] 30)); rw [h]; rfl, HP.out⟩, alloc_below _ _⟩
theorem of_slots {L : List (ByteArray × Int)} {lp : Option Addr} {lc lb : Nat} {w : World} (ha : AsksS w lb L lp lc) (hl : L.length ≤ 4) (hlc : L.length ≤ lc) (hcm : lc ≤ maxLen) (hr : Rising (slKeys L)) (hg : SlGood L) :
    OfOk w (.func (.func 109) #[] #[.pointer (some ⟨lb, 0, none⟩)]) fun s => valL s.data.toList L :=
  ⟨_, _, rfl, enters_of Tryz.func109 (by kernel_rfl) rfl, fun s => valL_in _ L 0 hg ⟨by omega, by omega⟩, fun W hW s => v_slot1 L lp lc s lb W (ha.ext hW) hl hlc hcm hr⟩
theorem valG_L (L : List (ByteArray × Int)) : ∀ a : F, valG (fun s => valL s.data.toList L) a = valF L a
  | .nil => rfl
  | .cons op n s a r => by
    rw [valG_cons, valF_cons, valG_L L r]
    unfold valEG valE
    rw [valG_L L a]
theorem valEG_L (L : List (ByteArray × Int)) (op n : Int) (s : ByteArray) (a : F) : valEG (fun s => valL s.data.toList L) op n s a = valE L op n s a := by
  unfold valEG valE; rw [valG_L]

/-- Slots without an error rise. -/
theorem rising_of_slErr : ∀ (p : Option ByteArray) (L : List (ByteArray × Int)), slErr' p L = 0 → Rising (slKeys L) ∧ (∀ y, p = some y → ∀ x ∈ L, y.data.toList < x.1.data.toList)
  | p, [], _ => ⟨trivial, fun y _ x hx => by simp at hx⟩
  | p, x :: r, h => by
    rw [slErr_cons] at h
    split at h
    · cases h
    split at h
    · cases h
    split at h
    · cases h
    rename_i h1 h2 h3
    obtain ⟨g1, g2⟩ := rising_of_slErr _ r h
    refine ⟨⟨fun z hz => ?_, g1⟩, fun y hy z hz => ?_⟩
    · simp only [List.mem_map] at hz
      obtain ⟨u, hu, rfl⟩ := hz
      exact g2 x.1 rfl u hu
    · subst hy
      have hlt : y.data.toList < x.1.data.toList := by
        simp only [Option.elim, Bool.or_eq_true, not_or] at h3
        obtain ⟨h4, h5⟩ := h3
        rw [bl_lt, Lib.toList_data, Lib.toList_data] at h4
        rw [Lib.toList_data, Lib.toList_data] at h5
        have h6 : ¬ x.1.data.toList < y.data.toList := by simpa using h4
        have h7 : x.1.data.toList ≠ y.data.toList := by simpa using h5
        rcases Std.lt_trichotomy (α := List UInt8) y.data.toList x.1.data.toList with k | k | k
        · exact k
        · exact absurd k.symm h7
        · exact absurd k h6
      rcases List.mem_cons.1 hz with rfl | hz
      · exact hlt
      · exact List.lt_trans hlt (g2 x.1 rfl z hz)

theorem ret_pair {a b : Int} {t : Int × Int} (h : (a, b) = t) : Ending.returned (.tuple #[.int .i64 a, .int .i64 b]) = .returned (.tuple #[.int .i64 t.1, .int .i64 t.2]) := by cases h; rfl
set_option maxRecDepth 100000 in
set_option maxHeartbeats 4000000 in
theorem v_Eval (op n : Int) (s : ByteArray) (a : F) (p : Option Addr) (c : Nat) (fa : List Nat) (L : List (ByteArray × Int)) (lp : Option Addr) (lc : Nat) (w : World) (h1 : RdP w a p fa) (h2 : a.len ≤ c) (h3 : c ≤ 9223372036854775807) (h4 : (F.cons op n s a .nil).Fits) (h5 : SlP w L lp) (h6 : L.length ≤ 4) (h7 : L.length ≤ lc) (h8 : lc ≤ maxLen) (h9 : ∀ x ∈ L, SlOk x) :
      Calls Tryz.prog 11 #[.agg #[.int .i64 op, .int .i64 n, .string s, .slice p a.len c], .slice lp L.length lc] w fun e w' => e = .returned (.tuple #[.int .i64 (valAns L op n s a).1, .int .i64 (valAns L op n s a).2]) ∧ Below w.heap.size w w' := by
  have E1 := (Ext.refl (S := fun _ => False) w).alloc (.cells #[.int .i64 op, .int .i64 n, .string s, .slice p a.len c] 28)
  have HX := hid (And.intro (h1.ext E1 (fun _ _ => id)) (And.intro (h5.ext E1 (fun _ _ => id)) (And.intro h4 h9)))
  have HN := hid (heap_new w (.cells #[.int .i64 op, .int .i64 n, .string s, .slice p a.len c] 28))
  have HB := hid (alloc_below w (.cells #[.int .i64 op, .int .i64 n, .string s, .slice p a.len c] 28))
  have hz1 : w.heap.size + 1 = (w.alloc (.cells #[.int .i64 op, .int .i64 n, .string s, .slice p a.len c] 28)).heap.size := by simp
  clear h1 h5 h4 h9 E1
  go_enter Tryz.func11, Tryz.ntmps11
  go_wp2_with fail
  generalize w.alloc (.cells #[.int .i64 op, .int .i64 n, .string s, .slice p a.len c] 28) = w1 at *
  refine (p_CheckExpr op n s a p c fa _ HX.out.1 h2 h3 HX.out.2.2.1).mono ?_
  rintro e w2 ⟨rfl, hb2⟩
  have E2 := Ext.of_below (S := fun _ => False) hb2
  have HX2 := hid (And.intro (HX.out.1.ext E2 (fun _ _ => id)) (And.intro (HX.out.2.1.ext E2 (fun _ _ => id)) HX.out.2.2))
  have HN2 := hid (E2.heap HN.out id)
  have HB2 := hid (below_ext HB.out E2 (by omega))
  have hz2 : w.heap.size + 1 ≤ w2.heap.size := by have := E2.size; omega
  clear HX HN HB E2 hb2
  generalize hge : errE op n s a 1 = er
  have GE := hid hge
  clear hge
  by_cases he : er = 0
  case neg =>
    have hne : (er != 0) = true := by simpa using he
    have HA := hid (show valAns L op n s a = (0, er) by rw [valAns, if_pos (by rw [GE.out]; exact he), GE.out])
    clear he
    go_wp2_with fail
    go_ret2
    exact ⟨ret_pair (a := 0) (b := er) HA.out.symm, HB2.out⟩
  subst he
  go_wp2_with fail
  refine (s_CheckSlots L lp lc _ HX2.out.2.1 h6 h7 h8 HX2.out.2.2.2).mono ?_
  rintro e w3 ⟨rfl, hb3⟩
  have E3 := Ext.of_below (S := fun _ => False) hb3
  have HX3 := hid (And.intro (HX2.out.1.ext E3 (fun _ _ => id)) (And.intro (HX2.out.2.1.ext E3 (fun _ _ => id)) HX2.out.2.2))
  have HN3 := hid (E3.heap HN2.out id)
  have HB3 := hid (below_ext HB2.out E3 (by omega))
  have hz3 : w.heap.size + 1 ≤ w3.heap.size := by have := E3.size; omega
  clear HX2 HN2 HB2 E3 hb3
  generalize hgs : slErr' none L = es
  have GS := hid hgs
  clear hgs
  by_cases he : es = 0
  case neg =>
    have hne : (es != 0) = true := by simpa using he
    have HA := hid (show valAns L op n s a = (0, es) by
      have g : slErr ⟨#[]⟩ L = es := GS.out
      rw [valAns, if_neg (by rw [GE.out]; simp), if_pos (by rw [g]; exact he), g])
    clear he
    go_wp2_with fail
    go_ret2
    exact ⟨ret_pair (a := 0) (b := es) HA.out.symm, HB3.out⟩
  subst he
  have HA := hid (show valAns L op n s a = (valE L op n s a, 0) by
    have g : slErr ⟨#[]⟩ L = 0 := GS.out
    rw [valAns, if_neg (by rw [GE.out]; simp), if_neg (by rw [g]; simp)])
  obtain ⟨⟨q0, q1, q2, q3⟩, _⟩ := blk4 HN3.out
  go_wp2_with fail
  refine (v_compile (a.size + 1) op n s a p c fa _ (by omega) HX3.out.1 h2 h3 HX3.out.2.2.1 (small_of_errE GE.out)).mono ?_
  rintro e w4 ⟨⟨v4, rfl, hm4⟩, hb4⟩
  have E4 := hid (Ext.of_below (S := fun _ => False) hb4)
  have HB4 := hid (below_ext HB3.out E4.out (by omega))
  have HP4 := hid (HX3.out.2.1.ext E4.out (fun _ _ => id))
  have HM4 := hid hm4
  clear hb4 hm4 q0 q1 q2 q3
  obtain ⟨kv, cv, rfl, hkv, hcv⟩ := HM4.out
  unfold Enters at hkv
  have HC4 := hid hcv
  clear hcv HM4
  go_wp2_with fail
  refine (v_slotValues L lp lc _ HP4.out).mono ?_
  rintro e w5 ⟨rfl, hask, hb5⟩
  have E5 := hid (Ext.of_below (S := fun _ => False) hb5)
  have HB5 := hid (below_ext HB4.out E5.out (by have := HB4.out.size; omega))
  have HO5 := hid (of_slots hask h6 h7 h8 (rising_of_slErr _ _ GS.out).1 (good_of_slErr _ _ GS.out))
  clear hb5 hask
  go_wp2_with fail
  have HV := hid (HC4.out _ _ w5 (.of_ext E5.out) HO5.out).2
  rw [valEG_L] at HV
  generalize valE L op n s a = va at HV HA
  refine HV.out.mono ?_
  rintro e w6 ⟨rfl, hb6⟩
  have HB6 := hid (below_ext HB5.out (Ext.of_below hb6) (by have := HB5.out.size; omega))
  clear hb6
  go_wp2_with fail
  go_ret2
  exact ⟨ret_pair (a := va) (b := 0) HA.out.symm, HB6.out⟩
end Go.Proofs.YtckbhlnncokigaaGreat
