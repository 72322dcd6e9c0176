/- Texts joined: VarsIn. -/
import Derived.Test.YtkgciohebloffaaGreatJS13
import Derived.Sort.EncStr
import Derived.Sort.OwnSorted
import Derived.Lib.RowBridge
import Derived.Test.YtkgciohebloffaaGreatJS05
/- VarsIn: the variables of expressions in a row, the reference's. -/
namespace Go.Proofs.YtkgciohebloffaaGreat
open Go.RowKit

/-- The names of the variables among expressions, each where it stands. -/
def nmL (l : List (Int × Int × ByteArray)) : List (List UInt8) := l.filterMap fun x => if x.1 = 2 then some x.2.2.data.toList else none
theorem nmL_app (l m : List (Int × Int × ByteArray)) : nmL (l ++ m) = nmL l ++ nmL m := by simp [nmL]
theorem nmL_le (l : List (Int × Int × ByteArray)) : (nmL l).length ≤ l.length := List.length_filterMap_le _ _
theorem enc_self (s : ByteArray) : encStr s.data.toList = .string s := by simp [encStr]

/-- The variables of expressions in a row, rising, each once. -/
def vsOf (f : F) : List (List UInt8) := Lib.compact ((nmL (ptF f)).mergeSort fun x y => decide (x ≤ y))
/-- A slice of strings. -/
def StrsAt (w : World) (q : Option Addr) (ts : List (List UInt8)) : Prop := ts = [] ∨ ∃ g, q = some ⟨g, 0, none⟩ ∧ ∀ i x, ts[i]? = some x → w.cell? ⟨g, i, none⟩ = some (encStr x)
def GotStrs (ts : List (List UInt8)) (w : World) (e : Ending) (w' : World) : Prop :=
  (∃ q c, e = .returned (.slice q ts.length c) ∧ StrsAt w' q ts ∧ ts.length ≤ c ∧ c ≤ maxLen ∧ ∀ x, q = some x → w.heap.size ≤ x.block) ∧ Below w.heap.size w w'

def VsRel (f : F) (w : World) (k : Nat) (v : Value) (wr : World) : Prop :=
  ∃ acc : List (List UInt8), nmL (ptF f) = acc ++ nmL (ptF (f.drop k)) ∧ wr.ownsRow w.heap.size 9 1 v acc.length (acc.map encStr) ∧ Below w.heap.size w wr
/-- .. and behind i rounds of the inner loop, over the parts l3 in block g3. -/
def ViRel (l3 : List (Int × Int × ByteArray)) (acc0 : List (List UInt8)) (ys : List Value) (g3 : Nat) (w : World) (i : Nat) (v : Value) (wr : World) : Prop :=
  ∃ acc : List (List UInt8), acc0 ++ nmL l3 = acc ++ nmL (l3.drop i) ∧ acc.length ≤ acc0.length + i ∧ wr.ownsRow w.heap.size 9 1 v acc.length (acc.map encStr) ∧ Below w.heap.size w wr ∧
    (∀ j u, ys[j]? = some u → wr.cell? ⟨g3, j, none⟩ = some u) ∧ v.ownBlock ≠ some g3 ∧ g3 < wr.heap.size ∧ w.heap.size ≤ wr.heap.size
theorem info_str : (Tryz.prog.info? 9).map (fun i => (i.zero, i.size, i.bytes)) = some (some (.string ⟨#[]⟩), 1, 16) := by kernel_rfl

set_option maxRecDepth 100000 in
set_option maxHeartbeats 4000000 in
theorem r_VarsIn (f : F) (p : Option Addr) (c : Nat) (fa : List Nat) (w : World) (hsz : f.size ≤ 1000) (hp : RdP w f p fa) (hac : f.len ≤ c) (hc : c ≤ 9223372036854775807) :
    Calls Tryz.prog 17 #[.slice p f.len c] w (GotStrs (vsOf f) w) := by
  have HP := hid hp
  have hal : (f.len : Int) ≤ 9223372036854775807 := by omega
  obtain ⟨i0, hi0, hz0, hz1, hz2⟩ := info_parts info_str
  have hR0 : VsRel f w 0 (.slice none 0 0) w := ⟨[], rfl, World.ownsRow_nil _ _ _ _, Below.refl _ _⟩
  have HR0 := hid hR0
  clear hp hR0
  go_enter Tryz.func17, Tryz.ntmps17
  go_wp2_with fail
  go_loopw [3, 10] (fun v i wr => ∃ (k : Nat) (u : Value), k ≤ f.len ∧ i = .int .i64 k ∧ v = u ∧ VsRel f w k u wr) (fun _ i _ => f.len - (intOf i).toNat)
  case atStart => exact ⟨0, _, by omega, rfl, rfl, HR0.out⟩
  case round =>
    obtain ⟨k, v, hk, rfl, hgv, acc, hacc, hown, hbl⟩ := hrel
    subst hgv
    have hla : acc.length ≤ f.size := by
      have h1 := congrArg List.length hacc
      have h2 := nmL_le (ptF f)
      rw [List.length_append] at h1; rw [ptF_length] at h2; omega
    have HA := hid hacc
    have HO := hid hown
    have HB := hid hbl
    have hzr : w.heap.size ≤ wr.heap.size := hbl.size
    have hpr : RdP wr f p fa := HP.out.ext (S := fun _ => False) (Ext.of_below hbl) (fun _ _ => id)
    clear hacc hown hbl
    by_cases hlt : k < f.len
    · rcases hpr with ⟨h0, _⟩ | ⟨b, o, xa, fb, rfl, _, _, hcell, _, hx⟩
      · rw [h0] at hlt; simp [F.len] at hlt
      obtain ⟨op', n', s', a', p', c', fa', hdrop, x0, x1, x2, x3, hl', hc', hp', _⟩ := hx.at hlt
      have y0 := hcell _ _ x0
      have y1 := hcell _ _ x1
      have y2 := hcell _ _ x2
      have y3 := hcell _ _ x3
      simp only [← Nat.add_assoc, Nat.mul_comm 4 k] at y0 y1 y2 y3
      have hsz' : a'.size + 1 ≤ f.size := by
        have := F.size_split k f hdrop; omega
      have HD := hid hdrop
      have HP' := hid (And.intro hp' (And.intro hl' hc'))
      clear hcell hx x0 x1 x2 x3 hp' hl' hc' hdrop
      go_wp2_with fail
      refine (r_parts (a'.size + 1) (by omega) op' n' s' a' p' c' fa' _ (by omega) (HP'.out.1.ext (S := fun _ => False) ((Ext.refl _).alloc _) (fun _ _ => id)) HP'.out.2.1 HP'.out.2.2).mono ?_
      rintro e w3 ⟨⟨p3, c3, ys, rfl, hown3, hpt3⟩, hb3⟩
      have hz3 : wr.heap.size + 1 ≤ w3.heap.size := by have := hb3.size; simpa using this
      have HB3 := hid (HB.out.trans (((alloc_below wr _).trans (hb3.mono (by simp))).mono hzr))
      have HO3 := hid (ownsRow_ext (S := fun _ => False) HO.out ((Ext.of_below ((alloc_below wr _).trans (hb3.mono (by simp))))) (fun _ _ _ => id))
      obtain ⟨g3, cc3, hv3, hg3, _, _, hcell3, _⟩ := own_cells hown3 (by omega)
      injection hv3 with hv4 _ hv5
      subst hv4 hv5
      have hls : ((a'.size + 1 : Nat) : Int) ≤ 1000 := by omega
      have hg3s : g3 < w3.heap.size := by
        have hl4 := hpt3.length
        rw [ptE_length] at hl4
        exact World.block_lt_of_cell? _ _ (hcell3 0 _ (List.getElem?_eq_getElem (by omega)))
      have hno : u3.ownBlock ≠ some g3 := fun e => by have := (HO.out.lt g3 e).2; simp at hg3; omega
      have HV0 := hid (show ViRel (ptE op' n' s' a') acc ys g3 w 0 u3 w3 from ⟨acc, rfl, by omega, HO3.out, HB3.out, hcell3, hno, hg3s, by omega⟩)
      have HT3 := hid hpt3
      have HX : Hid (nmL (ptF f) = (acc ++ nmL (ptE op' n' s' a')) ++ nmL (ptF (f.drop (k + 1)))) := hid (by rw [HA.out, HD.out, ptF_cons, nmL_app]; simp)
      clear hb3 hown3 hcell3 hpt3 hno
      go_wp2_with fail
      go_loopw [3, 17] (fun v i wr => ∃ (j : Nat) (u : Value), j ≤ a'.size + 1 ∧ i = .int .i64 j ∧ v = u ∧ ViRel (ptE op' n' s' a') acc ys g3 w j u wr) (fun _ i _ => a'.size + 1 - (intOf i).toNat)
      case atStart => exact ⟨0, _, by omega, rfl, rfl, HV0.out⟩
      case round =>
        obtain ⟨j, v, hj, rfl, hgv, acc2, hacc2, hlen2, hown2, hbl2, hcell2, hno2, hgs2, hzw2⟩ := hrel
        subst hgv
        have HA2 := hid (And.intro hacc2 (And.intro hlen2 (And.intro hcell2 (And.intro hno2 hgs2))))
        have HO2 := hid hown2
        have HB2 := hid hbl2
        have hl2' : acc2.length ≤ 3000 := by omega
        clear hacc2 hlen2 hown2 hbl2 hno2
        by_cases hlt2 : j < a'.size + 1
        · have hlt2' : (j : Int) < ((a'.size + 1 : Nat) : Int) := by omega
          have hjl : j < (ptE op' n' s' a').length := by rw [ptE_length]; exact hlt2
          obtain ⟨g0, g1, g2, vq, vl, vc, g4⟩ := HT3.out.get j _ (List.getElem?_eq_getElem hjl)
          have z0 := hcell2 _ _ g0
          have z1 := hcell2 _ _ g1
          have z2 := hcell2 _ _ g2
          have z3 := hcell2 _ _ g4
          have hDJ := hid (List.drop_eq_getElem_cons hjl)
          clear hcell2 g0 g1 g2 g4
          generalize (ptE op' n' s' a')[j] = x at z0 z1 z2 hDJ
          obtain ⟨xo, xn, xs⟩ := x
          dsimp only at z0 z1 z2
          have HJ : Hid (acc ++ nmL (ptE op' n' s' a') = acc2 ++ ((if xo = 2 then [xs.data.toList] else []) ++ nmL ((ptE op' n' s' a').drop (j + 1)))) := hid (by
            rw [HA2.out.1, hDJ.out]; simp only [nmL, List.filterMap_cons]; split <;> simp_all)
          clear hDJ
          by_cases hx2 : xo = 2
          · have hxb : (xo == 2) = true := by simpa using hx2
            have HX2 := hid hx2
            clear hx2
            have HN2 := hid (show ((wr.alloc (.cells #[.int .i64 xo, .int .i64 xn, .string xs, .slice vq vl vc] 28)).alloc (.cells #[.string xs] 9)).heap[wr.heap.size + 1]? = some (.cells #[.string xs] 9 (0, 0)) from (two_new rfl).2.1)
            go_wp2_with (at_builtin; refine wpList_append_lies _ rfl _ _ 37 rfl w.heap.size 9 i0 _ 1 16 Tryz.underlying37 hi0 hz0 hz1 hz2 rfl (by decide) _ _ _ (by rfl) ((HO2.out.alloc _).alloc _) ⟨wr.heap.size + 1, 0, none⟩ 1 1 [.string xs] rfl rfl (World.news_of_block HN2.out) (fun x hx => by simp at hx; subst hx; rfl) (by omega) (by unfold maxLen; omega) (by omega) (by simp; omega) (wr.heap.size + 2) (by simp) ?_; intro g cap w4 hown4 hgrow hat4 hlt4)
            have hno4 := HA2.out.2.2.2.1
            have hgs4 := HA2.out.2.2.2.2
            have e4 : Ext (fun b => some b = u3.ownBlock) wr w4 := (((Ext.refl wr).alloc _).alloc _).grown hgrow (fun b hb => .inl hb.symm)
            have hne : ∀ b, b < w.heap.size → some b ≠ u3.ownBlock := fun b hb e => by have := (HO2.out.lt b e.symm).1; omega
            go_roundw
            case rel =>
              refine ⟨j + 1, _, by omega, by go_num, rfl, acc2 ++ [xs.data.toList], ?_, by have := HA2.out.2.1; simp; omega, ?_, ?_, fun i u hu => e4.cell_some (HA2.out.2.2.1 i u hu) (fun e => hno4 e.symm), ?_, Nat.lt_of_lt_of_le hgs4 e4.size, Nat.le_trans hzw2 e4.size⟩
              · rw [HJ.out, if_pos HX2.out]; simp
              · rw [List.map_append, List.length_append]; simpa [enc_self] using hown4
              · exact ⟨e4.os.trans HB2.out.os, e4.tape.trans HB2.out.tape, e4.output.trans HB2.out.output, Nat.le_trans HB2.out.size e4.size, fun i hi => (e4.block i (by have := HB2.out.size; omega) (hne _ (by omega))).trans (HB2.out.block i hi)⟩
              · intro e
                simp [Value.ownBlock] at e
                subst e
                rcases hat4 with h | h
                · exact hno4 h
                · omega
            case measure => simp [intOf]; omega
          · have hxb : (xo == 2) = false := by simpa using hx2
            have HX2 := hid hx2
            clear hx2
            go_wp2_with fail
            have e4 := (Ext.refl (S := fun _ => False) wr).alloc (.cells #[.int .i64 xo, .int .i64 xn, .string xs, .slice vq vl vc] 28)
            go_roundw
            case rel =>
              refine ⟨j + 1, _, by omega, by go_num, rfl, acc2, ?_, by have := HA2.out.2.1; omega, HO2.out.alloc _, HB2.out.alloc hzw2 _, fun i u hu => e4.cell_some (HA2.out.2.2.1 i u hu) id, HA2.out.2.2.2.1, Nat.lt_of_lt_of_le HA2.out.2.2.2.2 e4.size, Nat.le_trans hzw2 e4.size⟩
              rw [HJ.out, if_neg HX2.out]; simp
            case measure => simp [intOf]; omega
        · have hjj : j = a'.size + 1 := by omega
          have HZ : Hid (acc ++ nmL (ptE op' n' s' a') = acc2) := hid (by rw [HA2.out.1, List.drop_eq_nil_of_le (by rw [ptE_length]; omega)]; simp [nmL])
          go_wp2_with fail
          go_roundw
          case rel => exact ⟨k + 1, _, by omega, by go_num, rfl, acc2, by rw [← HZ.out]; exact HX.out, HO2.out, HB2.out⟩
          case measure => simp [intOf]; omega
    · have hkl : k = f.len := by omega
      have hfin : nmL (ptF f) = acc := by rw [HA.out, F.eq_nil_of_len (f := f.drop k) (by rw [F.len_drop]; omega)]; simp [ptF, nmL]
      have HF := hid hfin
      clear hfin hpr
      by_cases ha : acc = []
      · subst ha
        have HV : Hid (vsOf f = []) := hid (by rw [vsOf, HF.out]; simp [Lib.compact]; rfl)
        obtain ⟨p5, c5, rfl, hc5, hp5⟩ : ∃ p5 c5, u3 = .slice p5 0 c5 ∧ c5 ≤ maxLen ∧ ∀ x, p5 = some x → w.heap.size ≤ x.block := by
          rcases HO.out.2 with ⟨h1, _⟩ | ⟨g, c5, cur, h1, h2, _, _, hc, _⟩
          · exact ⟨_, _, h1, by decide, by simp⟩
          · exact ⟨_, _, h1, hc, by intro x hx; cases hx; exact h2⟩
        have H5 := hid hp5
        clear hp5
        go_wp2_with fail
        refine (Tryz.slices_Sort_string_none p5 c5 wr).mono ?_
        rintro e w6 ⟨rfl, rfl⟩
        go_wp2_with fail
        refine (Tryz.slices_Compact_string_empty p5 c5 _).mono ?_
        rintro e w6 ⟨rfl, rfl⟩
        go_wp2_with fail
        go_ret
        exact ⟨⟨p5, c5, by rw [HV.out]; rfl, .inl HV.out, by rw [HV.out]; simp, hc5, H5.out⟩, HB.out⟩
      · have hal0 : 0 < acc.length := List.length_pos_iff.2 ha
        rcases HO.out.2 with ⟨_, h0⟩ | ⟨g, cc, cur, rfl, hbase, hb, h1, h2, h3, h4⟩
        · omega
        have HH := hid (And.intro hbase (And.intro hb (And.intro h1 (And.intro h2 (And.intro h3 h4)))))
        have hgl : g < wr.heap.size := (Array.getElem?_eq_some_iff.1 hb).1
        have hS := hid (holds_of_block (ss := acc) hb (by simpa using h4))
        clear hbase hb h1 h2 h3 h4
        go_wp2_with fail
        refine (Tryz.slices_Sort_string g 0 cc acc wr hS.out hgl (by omega)).mono ?_
        rintro e w6 ⟨rfl, nn, os, rfl⟩
        have hown6 := ownsRow_sorted (n := nn) (os := os) (ts := acc.mergeSort fun x y => decide (x ≤ y)) (ss := acc) (by simp) HH.out.1 HH.out.2.1 HH.out.2.2.1 HH.out.2.2.2.1 HH.out.2.2.2.2.1
        have hg6 := grownBy_sorted (n := nn) (os := os) (w := wr) (g := g) (acc.mergeSort fun x y => decide (x ≤ y)).toArray
        generalize «Sort».grow («Sort».putRow encStr («Sort».ahead wr nn) g 0 (acc.mergeSort fun x y => decide (x ≤ y)).toArray) os = w6 at hown6 hg6
        have HV : Hid (vsOf f = Lib.compact (acc.mergeSort fun x y => decide (x ≤ y))) := hid (by rw [vsOf, HF.out])
        have hsl : (acc.mergeSort fun x y => decide (x ≤ y)).length = acc.length := List.length_mergeSort _
        have HB6 : Hid (Below w.heap.size w w6) := hid (HB.out.grown hg6 hzr (fun j hj => by cases hj; exact HH.out.1))
        generalize (acc.mergeSort fun x y => decide (x ≤ y)) = st at hown6 hsl HV
        rcases hown6.2 with ⟨h0, _⟩ | ⟨g', cc', cur', hv', _, hb6, i1, i2, i3, i4⟩
        · cases h0
        injection hv' with e1 _ e2
        injection e1 with e1
        injection e1 with e1
        subst e1 e2
        have hS6 := hid (holds_of_block (ss := st) hb6 (by rw [hsl]; simpa using i4))
        have HC6 := hid (And.intro hb6 (And.intro i1 (And.intro i2 i3)))
        have hcl := Lib.compact_length_le st
        clear hown6 hg6 hb6 i1 i2 i3 i4
        go_wp2_with fail
        have hcall := Tryz.slices_Compact_string g 0 cc st w6 hS6.out (by omega) (by have := HC6.out.2.1; omega)
        rw [hsl] at hcall
        refine hcall.mono ?_
        rintro e w7 ⟨rfl, q, rfl⟩
        have h7 := heap_sorted (n := q) (os := #[]) (Lib.compact st ++ List.replicate (acc.length - (Lib.compact st).length) []).toArray HC6.out.1
        have hg7 := grownBy_sorted (n := q) (os := #[]) (w := w6) (g := g) (Lib.compact st ++ List.replicate (acc.length - (Lib.compact st).length) []).toArray
        rw [«Sort».grow_empty] at h7 hg7
        have h8 := take_putCells cur' (Lib.compact st ++ List.replicate (acc.length - (Lib.compact st).length) []) (by rw [HC6.out.2.2.2]; have := HC6.out.2.1; simp; omega)
        have hcs : ∀ i x, (Lib.compact st)[i]? = some x → («Sort».putRow encStr («Sort».ahead w6 q) g 0 (Lib.compact st ++ List.replicate (acc.length - (Lib.compact st).length) []).toArray).cell? ⟨g, i, none⟩ = some (encStr x) := fun i x hx => by
          have hi : i < (Lib.compact st).length := (List.getElem?_eq_some_iff.1 hx).1
          rw [cell_of_row _ _ _ _ _ _ h7, ← Array.getElem?_toList]
          have h9 := congrArg (fun l => l[i]?) h8
          simp only [List.getElem?_take_of_lt (show i < (Lib.compact st ++ List.replicate (acc.length - (Lib.compact st).length) []).length by simp; omega)] at h9
          rw [h9, List.getElem?_map, List.getElem?_append_left hi, hx]; rfl
        have HB7 : Hid (Below w.heap.size w («Sort».putRow encStr («Sort».ahead w6 q) g 0 (Lib.compact st ++ List.replicate (acc.length - (Lib.compact st).length) []).toArray)) := hid (HB6.out.grown hg7 HB6.out.size (fun j hj => by cases hj; exact HH.out.1))
        have HCS := hid hcs
        clear h7 hg7 h8 hcs hcall
        generalize «Sort».putRow encStr («Sort».ahead w6 q) g 0 (Lib.compact st ++ List.replicate (acc.length - (Lib.compact st).length) []).toArray = w7 at HB7 HCS
        go_wp2_with fail
        go_ret
        exact ⟨⟨some ⟨g, 0, none⟩, cc, by rw [HV.out]; rfl, .inr ⟨g, rfl, by rw [HV.out]; exact HCS.out⟩, by rw [HV.out]; have := HC6.out.2.1; omega, HC6.out.2.2.1, by intro x hx; cases hx; exact HH.out.1⟩, HB7.out⟩
end Go.Proofs.YtkgciohebloffaaGreat
