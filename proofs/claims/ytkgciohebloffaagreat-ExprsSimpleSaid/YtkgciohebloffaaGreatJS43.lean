/- Texts joined: VVars. -/
import Derived.Test.YtkgciohebloffaaGreatJS40
import Derived.Test.YtkgciohebloffaaGreatJS32
/- variables, Vars and Size, the program's. -/
namespace Go.Proofs.YtkgciohebloffaaGreat
open Go.RowKit

set_option maxRecDepth 100000 in
set_option maxHeartbeats 4000000 in
theorem v_variables (f : F) (p : Option Addr) (c : Nat) (fa : List Nat) (w : World) (hsz : f.size ≤ 1000) (hp : RdP w f p fa) (hac : f.len ≤ c) (hc : c ≤ 9223372036854775807) (hsm : f.Small) :
    Calls Tryz.prog 59 #[.slice p f.len c] w (GotStrs (vsOf f) w) := by
  have HP := hid hp
  have HE := hid (nmN_eq f hsm)
  have hlt := hp.lt
  have HLT := hid hlt
  clear hp hlt
  go_enter Tryz.func59, Tryz.ntmps59
  go_wp2_with fail
  refine (v_names (f.size + 1) f p c fa [] (.slice none 0 0) w.heap.size _ (by omega) HP.out hac hc HLT.out (Nat.le_refl _) (World.ownsRow_nil _ _ _ _) (by simp; omega)).mono ?_
  rintro e w2 ⟨⟨v3, rfl, hown, _⟩, hext⟩
  rw [List.nil_append] at hown
  have HB := hid (show Below w.heap.size w w2 from ⟨hext.os, hext.tape, hext.output, hext.size, fun i hi => hext.block i hi (by simp [Value.ownBlock])⟩)
  have hzr : w.heap.size ≤ w2.heap.size := hext.size
  generalize hacc : nmN f = acc at hown
  have HF := hid (show nmL (ptF f) = acc by rw [← hacc, HE.out])
  have hla : acc.length ≤ f.size := by have := nmN_le f; rw [hacc] at this; exact this
  have HO := hid hown
  clear hown hext hacc
  by_cases ha : acc = []
  · subst ha
    have HV : Hid (vsOf f = []) := hid (by rw [vsOf, HF.out]; simp [Lib.compact]; rfl)
    obtain ⟨p5, c5, rfl, hc5, hp5⟩ : ∃ p5 c5, v3 = .slice p5 0 c5 ∧ c5 ≤ maxLen ∧ ∀ x, p5 = some x → w.heap.size ≤ x.block := by
      rcases HO.out.2 with ⟨h1, _⟩ | ⟨g, c5, cur, h1, h2, _, _, hc, _⟩
      · exact ⟨_, _, h1, by decide, by simp⟩
      · exact ⟨_, _, h1, hc, by intro x hx; cases hx; exact h2⟩
    have H5 := hid hp5
    clear hp5
    go_wp2_with fail
    refine (Tryz.slices_Sort_string_none p5 c5 w2).mono ?_
    rintro e w6 ⟨rfl, rfl⟩
    go_wp2_with fail
    refine (Tryz.slices_Compact_string_empty p5 c5 _).mono ?_
    rintro e w6 ⟨rfl, rfl⟩
    go_wp2_with fail
    go_ret
    exact ⟨⟨p5, c5, by rw [HV.out]; rfl, .inl HV.out, by rw [HV.out]; simp, hc5, H5.out⟩, HB.out⟩
  · have hal0 : 0 < acc.length := List.length_pos_iff.2 ha
    rcases HO.out.2 with ⟨_, h0⟩ | ⟨g, cc, cur, rfl, hbase, hb, h1, h2, h3, h4⟩
    · omega
    have HH := hid (And.intro hbase (And.intro hb (And.intro h1 (And.intro h2 (And.intro h3 h4)))))
    have hgl : g < w2.heap.size := (Array.getElem?_eq_some_iff.1 hb).1
    have hS := hid (holds_of_block (ss := acc) hb (by simpa using h4))
    clear hbase hb h1 h2 h3 h4
    go_wp2_with fail
    refine (Tryz.slices_Sort_string g 0 cc acc w2 hS.out hgl (by omega)).mono ?_
    rintro e w6 ⟨rfl, nn, os, rfl⟩
    have hown6 := ownsRow_sorted (n := nn) (os := os) (ts := acc.mergeSort fun x y => decide (x ≤ y)) (ss := acc) (by simp) HH.out.1 HH.out.2.1 HH.out.2.2.1 HH.out.2.2.2.1 HH.out.2.2.2.2.1
    have hg6 := grownBy_sorted (n := nn) (os := os) (w := w2) (g := g) (acc.mergeSort fun x y => decide (x ≤ y)).toArray
    generalize «Sort».grow («Sort».putRow encStr («Sort».ahead w2 nn) g 0 (acc.mergeSort fun x y => decide (x ≤ y)).toArray) os = w6 at hown6 hg6
    have HV : Hid (vsOf f = Lib.compact (acc.mergeSort fun x y => decide (x ≤ y))) := hid (by rw [vsOf, HF.out])
    have hsl : (acc.mergeSort fun x y => decide (x ≤ y)).length = acc.length := List.length_mergeSort _
    have HB6 : Hid (Below w.heap.size w w6) := hid (HB.out.grown hg6 hzr (fun j hj => by cases hj; exact HH.out.1))
    generalize (acc.mergeSort fun x y => decide (x ≤ y)) = st at hown6 hsl HV
    rcases hown6.2 with ⟨h0, _⟩ | ⟨g', cc', cur', hv', _, hb6, i1, i2, i3, i4⟩
    · cases h0
    injection hv' with e1 _ e2
    injection e1 with e1
    injection e1 with e1
    subst e1 e2
    have hS6 := hid (holds_of_block (ss := st) hb6 (by rw [hsl]; simpa using i4))
    have HC6 := hid (And.intro hb6 (And.intro i1 (And.intro i2 i3)))
    have hcl := Lib.compact_length_le st
    clear hown6 hg6 hb6 i1 i2 i3 i4
    go_wp2_with fail
    have hcall := Tryz.slices_Compact_string g 0 cc st w6 hS6.out (by omega) (by have := HC6.out.2.1; omega)
    rw [hsl] at hcall
    refine hcall.mono ?_
    rintro e w7 ⟨rfl, q, rfl⟩
    have h7 := heap_sorted (n := q) (os := #[]) (Lib.compact st ++ List.replicate (acc.length - (Lib.compact st).length) []).toArray HC6.out.1
    have hg7 := grownBy_sorted (n := q) (os := #[]) (w := w6) (g := g) (Lib.compact st ++ List.replicate (acc.length - (Lib.compact st).length) []).toArray
    rw [«Sort».grow_empty] at h7 hg7
    have h8 := take_putCells cur' (Lib.compact st ++ List.replicate (acc.length - (Lib.compact st).length) []) (by rw [HC6.out.2.2.2]; have := HC6.out.2.1; simp; omega)
    have hcs : ∀ i x, (Lib.compact st)[i]? = some x → («Sort».putRow encStr («Sort».ahead w6 q) g 0 (Lib.compact st ++ List.replicate (acc.length - (Lib.compact st).length) []).toArray).cell? ⟨g, i, none⟩ = some (encStr x) := fun i x hx => by
      have hi : i < (Lib.compact st).length := (List.getElem?_eq_some_iff.1 hx).1
      rw [cell_of_row _ _ _ _ _ _ h7, ← Array.getElem?_toList]
      have h9 := congrArg (fun l => l[i]?) h8
      simp only [List.getElem?_take_of_lt (show i < (Lib.compact st ++ List.replicate (acc.length - (Lib.compact st).length) []).length by simp; omega)] at h9
      rw [h9, List.getElem?_map, List.getElem?_append_left hi, hx]; rfl
    have HB7 : Hid (Below w.heap.size w («Sort».putRow encStr («Sort».ahead w6 q) g 0 (Lib.compact st ++ List.replicate (acc.length - (Lib.compact st).length) []).toArray)) := hid (HB6.out.grown hg7 HB6.out.size (fun j hj => by cases hj; exact HH.out.1))
    have HCS := hid hcs
    clear h7 hg7 h8 hcs hcall
    generalize «Sort».putRow encStr («Sort».ahead w6 q) g 0 (Lib.compact st ++ List.replicate (acc.length - (Lib.compact st).length) []).toArray = w7 at HB7 HCS
    go_wp2_with fail
    go_ret
    exact ⟨⟨some ⟨g, 0, none⟩, cc, by rw [HV.out]; rfl, .inr ⟨g, rfl, by rw [HV.out]; exact HCS.out⟩, by rw [HV.out]; have := HC6.out.2.1; omega, HC6.out.2.2.1, by intro x hx; cases hx; exact HH.out.1⟩, HB7.out⟩
theorem ret_sl {q : Option Addr} {k : Nat} {a b : Int} {ts us : List (List UInt8)} (h : ts = us) (g : a = b) : Ending.returned (.tuple #[.slice q ts.length k, .int .i64 a]) = .returned (.tuple #[.slice q us.length k, .int .i64 b]) := by rw [h, g]
set_option maxRecDepth 100000 in
set_option maxHeartbeats 4000000 in
theorem v_Vars (op n : Int) (s : ByteArray) (a : F) (p : Option Addr) (c : Nat) (fa : List Nat) (w : World) (hsz : a.size ≤ 149) (h1 : RdP w a p fa) (h2 : a.len ≤ c) (h3 : c ≤ 9223372036854775807) (h4 : (F.cons op n s a .nil).Fits) :
      Calls Tryz.prog 12 #[.agg #[.int .i64 op, .int .i64 n, .string s, .slice p a.len c]] w fun e w' => (∃ q k, e = .returned (.tuple #[.slice q (vsAns op n s a).length k, .int .i64 (errE op n s a 1)]) ∧ StrsAt w' q (vsAns op n s a)) ∧ Below w.heap.size w w' := by
  have E1 := (Ext.refl (S := fun _ => False) w).alloc (.cells #[.int .i64 op, .int .i64 n, .string s, .slice p a.len c] 28)
  have HX := hid (And.intro (h1.ext E1 (fun _ _ => id)) h4)
  have HN := hid (heap_new w (.cells #[.int .i64 op, .int .i64 n, .string s, .slice p a.len c] 28))
  have HB := hid (alloc_below w (.cells #[.int .i64 op, .int .i64 n, .string s, .slice p a.len c] 28))
  have hz1 : w.heap.size + 1 = (w.alloc (.cells #[.int .i64 op, .int .i64 n, .string s, .slice p a.len c] 28)).heap.size := by simp
  clear h1 h4 E1
  go_enter Tryz.func12, Tryz.ntmps12
  go_wp2_with fail
  generalize w.alloc (.cells #[.int .i64 op, .int .i64 n, .string s, .slice p a.len c] 28) = w1 at *
  refine (p_CheckExpr op n s a p c fa _ HX.out.1 h2 h3 HX.out.2).mono ?_
  rintro e w2 ⟨rfl, hb2⟩
  have E2 := Ext.of_below (S := fun _ => False) hb2
  have HX2 := hid (HX.out.1.ext E2 (fun _ _ => id))
  have HN2 := hid (E2.heap HN.out id)
  have HB2 := hid (below_ext HB.out E2 (by omega))
  have hz2 : w.heap.size + 1 ≤ w2.heap.size := by have := E2.size; omega
  clear HX HN HB E2 hb2
  generalize hge : errE op n s a 1 = er
  have GE := hid hge
  clear hge
  by_cases he : er = 0
  case neg =>
    have hne : (er != 0) = true := by simpa using he
    have HA := hid (show vsAns op n s a = [] by rw [vsAns, if_pos (by rw [GE.out]; exact he)])
    clear he
    go_wp2_with fail
    go_ret2
    exact ⟨⟨none, 0, ret_sl (ts := []) HA.out.symm GE.out.symm, .inl HA.out⟩, HB2.out⟩
  subst he
  have HA := hid (show vsAns op n s a = vsOf (.cons op n s a .nil) by rw [vsAns, if_neg (by rw [GE.out]; simp)])
  obtain ⟨⟨q0, q1, q2, q3⟩, _⟩ := blk4 HN2.out
  have HN3 := hid (heap_new w2 (.cells #[.int .i64 op, .int .i64 n, .string s, .slice p a.len c] 28))
  have E3 := hid ((Ext.refl (S := fun _ => False) w2).alloc (.cells #[.int .i64 op, .int .i64 n, .string s, .slice p a.len c] 28))
  have HX3 := hid (HX2.out.ext E3.out (fun _ _ => id))
  go_wp2_with fail
  refine (v_variables (F.cons op n s a .nil) (some ⟨w2.heap.size, 0, none⟩) 1 (w2.heap.size :: fa) _ (by simp [F.size]; omega) (box_rd (c := c) HN3.out HX3.out h2 h3) (by simp [F.len]) (by omega) (small_of_errE GE.out)).mono ?_
  rintro e w4 ⟨⟨q, k, rfl, hst, _, _, _⟩, hb4⟩
  have HB4 := hid (below_ext (below_ext HB2.out E3.out (by omega)) (Ext.of_below hb4) (by simp; omega))
  have HS := hid hst
  clear hb4 hst
  generalize vsOf (.cons op n s a .nil) = vs at HS HA ⊢
  go_wp2_with fail
  go_ret2
  exact ⟨⟨q, k, ret_sl HA.out.symm GE.out.symm, by rw [HA.out]; exact HS.out⟩, HB4.out⟩

set_option maxRecDepth 100000 in
set_option maxHeartbeats 2000000 in
theorem v_size1 (m : Nat) (ih : ∀ (op n : Int) (s : ByteArray) (a : F) (p : Option Addr) (c : Nat) (fa : List Nat) (w : World), a.size < m → a.size ≤ 100000 → RdP w a p fa → a.len ≤ c → c ≤ 9223372036854775807 →
      Calls Tryz.prog 60 #[.agg #[.int .i64 op, .int .i64 n, .string s, .slice p a.len c]] w fun e w' => e = .returned (.int .i64 ((a.size + 1 : Nat) : Int)) ∧ Below w.heap.size w w')
    (op n : Int) (s : ByteArray) (a : F) (p : Option Addr) (c : Nat) (fa : List Nat) (w : World) (ham : a.size ≤ m) (hbig : a.size ≤ 100000) (hp : RdP w a p fa) (hac : a.len ≤ c) (hc : c ≤ 9223372036854775807) :
    Calls Tryz.prog 60 #[.agg #[.int .i64 op, .int .i64 n, .string s, .slice p a.len c]] w fun e w' => e = .returned (.int .i64 ((a.size + 1 : Nat) : Int)) ∧ Below w.heap.size w w' := by
  have HP := hid hp
  have IH := hid ih
  have HN := hid (heap_new w (.cells #[.int .i64 op, .int .i64 n, .string s, .slice p a.len c] 28))
  have HB0 := hid (alloc_below w (.cells #[.int .i64 op, .int .i64 n, .string s, .slice p a.len c] 28))
  have hal : (a.len : Int) ≤ 9223372036854775807 := by omega
  clear hp ih
  go_enter Tryz.func60, Tryz.ntmps60
  go_wp2_with fail
  go_loopw [3, 9] (fun v i wr => ∃ k j : Nat, k ≤ a.len ∧ i = .int .i64 k ∧ v = .int .i64 j ∧ j + (a.drop k).size = a.size + 1 ∧ Below w.heap.size w wr) (fun _ i _ => a.len - (intOf i).toNat)
  case atStart => exact ⟨0, 1, by omega, rfl, rfl, by simp [F.drop]; omega, HB0.out⟩
  case round =>
    obtain ⟨k, j, hk, rfl, rfl, hj, hbl⟩ := hrel
    have HB := hid hbl
    have hzr : w.heap.size ≤ wr.heap.size := hbl.size
    have hpr : RdP wr a p fa := HP.out.ext (S := fun _ => False) (Ext.of_below hbl) (fun _ _ => id)
    clear hbl
    by_cases hlt : k < a.len
    · rcases hpr with ⟨h0, _⟩ | ⟨b, o, xa, fb, rfl, _, _, hcell, _, hx⟩
      · rw [h0] at hlt; simp [F.len] at hlt
      obtain ⟨op', n', s', a', p', c', fa', hdrop, x0, x1, x2, x3, hl', hc', hp', _⟩ := hx.at hlt
      have y0 := hcell _ _ x0
      have y1 := hcell _ _ x1
      have y2 := hcell _ _ x2
      have y3 := hcell _ _ x3
      simp only [← Nat.add_assoc, Nat.mul_comm 4 k] at y0 y1 y2 y3
      have hdk : (a.drop k).size = a'.size + (a.drop (k + 1)).size + 1 := by rw [hdrop]; rfl
      have hszk := F.size_split k a hdrop
      have HP' := hid (And.intro hp' (And.intro hl' (And.intro hc' (show a'.size < m by omega))))
      clear hcell hx x0 x1 x2 x3 hp' hl' hc' hdrop
      go_wp2_with fail
      refine (IH.out op' n' s' a' p' c' fa' _ HP'.out.2.2.2 (by omega) (HP'.out.1.ext (S := fun _ => False) ((Ext.refl _).alloc _) (fun _ _ => id)) HP'.out.2.1 HP'.out.2.2.1).mono ?_
      rintro e w3 ⟨rfl, hb3⟩
      have HB3 := hid ((HB.out.alloc hzr (.cells #[.int .i64 op', .int .i64 n', .string s', .slice p' a'.len c'] 28)).trans (hb3.mono (by simp; omega)))
      clear hb3
      have hj1 : (j : Int) ≤ 200000 := by omega
      have hj2 : ((a'.size + 1 : Nat) : Int) ≤ 200000 := by omega
      go_wp2_with fail
      go_roundw
      case rel => exact ⟨k + 1, j + (a'.size + 1), by omega, by go_num, by go_num, by omega, HB3.out⟩
      case measure => simp [intOf]; omega
    · have hka : a.drop k = .nil := F.eq_nil_of_len (by rw [F.len_drop]; omega)
      have hjj : (j : Int) = ((a.size + 1 : Nat) : Int) := by rw [hka] at hj; simp [F.size] at hj; omega
      have HJ := hid hjj
      clear hka hjj hpr
      go_wp2_with fail
      go_ret
      exact ⟨ret_int HJ.out, HB.out⟩
theorem v_size (m : Nat) : ∀ (op n : Int) (s : ByteArray) (a : F) (p : Option Addr) (c : Nat) (fa : List Nat) (w : World), a.size < m → a.size ≤ 100000 → RdP w a p fa → a.len ≤ c → c ≤ 9223372036854775807 →
      Calls Tryz.prog 60 #[.agg #[.int .i64 op, .int .i64 n, .string s, .slice p a.len c]] w fun e w' => e = .returned (.int .i64 ((a.size + 1 : Nat) : Int)) ∧ Below w.heap.size w w' := by
  induction m with
  | zero => intro op n s a p c fa w h; omega
  | succ m ih =>
    intro op n s a p c fa w h h1 h2 h3 h4
    exact v_size1 m ih op n s a p c fa w (by omega) h1 h2 h3 h4

set_option maxRecDepth 100000 in
set_option maxHeartbeats 4000000 in
theorem v_Size (op n : Int) (s : ByteArray) (a : F) (p : Option Addr) (c : Nat) (fa : List Nat) (w : World) (hsz : a.size ≤ 149) (h1 : RdP w a p fa) (h2 : a.len ≤ c) (h3 : c ≤ 9223372036854775807) (h4 : (F.cons op n s a .nil).Fits) :
      Calls Tryz.prog 13 #[.agg #[.int .i64 op, .int .i64 n, .string s, .slice p a.len c]] w fun e w' => e = .returned (.tuple #[.int .i64 (szAns op n s a), .int .i64 (errE op n s a 1)]) ∧ Below w.heap.size w w' := by
  have E1 := (Ext.refl (S := fun _ => False) w).alloc (.cells #[.int .i64 op, .int .i64 n, .string s, .slice p a.len c] 28)
  have HX := hid (And.intro (h1.ext E1 (fun _ _ => id)) h4)
  have HN := hid (heap_new w (.cells #[.int .i64 op, .int .i64 n, .string s, .slice p a.len c] 28))
  have HB := hid (alloc_below w (.cells #[.int .i64 op, .int .i64 n, .string s, .slice p a.len c] 28))
  have hz1 : w.heap.size + 1 = (w.alloc (.cells #[.int .i64 op, .int .i64 n, .string s, .slice p a.len c] 28)).heap.size := by simp
  clear h1 h4 E1
  go_enter Tryz.func13, Tryz.ntmps13
  go_wp2_with fail
  generalize w.alloc (.cells #[.int .i64 op, .int .i64 n, .string s, .slice p a.len c] 28) = w1 at *
  refine (p_CheckExpr op n s a p c fa _ HX.out.1 h2 h3 HX.out.2).mono ?_
  rintro e w2 ⟨rfl, hb2⟩
  have E2 := Ext.of_below (S := fun _ => False) hb2
  have HX2 := hid (HX.out.1.ext E2 (fun _ _ => id))
  have HN2 := hid (E2.heap HN.out id)
  have HB2 := hid (below_ext HB.out E2 (by omega))
  have hz2 : w.heap.size + 1 ≤ w2.heap.size := by have := E2.size; omega
  clear HX HN HB E2 hb2
  generalize hge : errE op n s a 1 = er
  have GE := hid hge
  clear hge
  by_cases he : er = 0
  case neg =>
    have hne : (er != 0) = true := by simpa using he
    have HA := hid (show szAns op n s a = 0 by rw [szAns, if_pos (by rw [GE.out]; exact he)])
    clear he
    go_wp2_with fail
    go_ret2
    exact ⟨ret_pair (a := 0) (b := er) (t := (szAns op n s a, errE op n s a 1)) (by rw [HA.out, GE.out]), HB2.out⟩
  subst he
  have HA := hid (show szAns op n s a = ((a.size + 1 : Nat) : Int) by rw [szAns, if_neg (by rw [GE.out]; simp)])
  obtain ⟨⟨q0, q1, q2, q3⟩, _⟩ := blk4 HN2.out
  go_wp2_with fail
  refine (v_size (a.size + 1) op n s a p c fa _ (by omega) (by omega) HX2.out h2 h3).mono ?_
  rintro e w4 ⟨rfl, hb4⟩
  have HB4 := hid (below_ext HB2.out (Ext.of_below hb4) (by omega))
  clear hb4
  generalize ((a.size + 1 : Nat) : Int) = z at HA ⊢
  go_wp2_with fail
  go_ret2
  exact ⟨ret_pair (a := z) (b := 0) (t := (szAns op n s a, errE op n s a 1)) (by rw [HA.out, GE.out]), HB4.out⟩
end Go.Proofs.YtkgciohebloffaaGreat
