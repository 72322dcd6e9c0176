/- Texts joined: Table, ValueOf. -/
import Derived.Test.YtkgciohebloffaaGreatJS15
import Derived.Maps.Own
import Derived.Maps.OwnOps
import Derived.Maps.Views
import Derived.Test.YtkgciohebloffaaGreatJS13
/- Table: variables by their names, the reference's. -/
namespace Go.Proofs.YtkgciohebloffaaGreat
open Go.RowKit Go.WideMaps Go.Maps

theorem klaw : Keyed Tryz.prog 9 := string_keyed Tryz.underlying9
theorem kzero (w : World) : (zeroValue 3).run Tryz.prog w = .ok (.int .i64 0) w := by kernel_rfl

def tabD (L : List (ByteArray × Int)) : DataW Unit := L.foldl (fun D x => D.put (.string x.1.data.toList) (.lit (.int .i64 x.2))) (.map [])
/-- The value of a variable: the last one of its name. -/
def valL (s : List UInt8) (L : List (ByteArray × Int)) : Int := L.foldl (fun v x => if x.1.data.toList = s then x.2 else v) 0

theorem tab_step (L : List (ByteArray × Int)) (k : Nat) (x : ByteArray × Int) (h : L[k]? = some x) : tabD (L.take (k + 1)) = (tabD (L.take k)).put (.string x.1.data.toList) (.lit (.int .i64 x.2)) := by
  unfold tabD
  rw [List.take_add_one, h, List.foldl_append]
  rfl

set_option maxRecDepth 100000 in
set_option maxHeartbeats 2000000 in
theorem r_Table (L : List (ByteArray × Int)) (lp : Option Addr) (lc : Nat) (w : World) (hp : SlP w L lp) (_hlc : L.length ≤ lc) (_hlm : lc ≤ maxLen) (h4 : L.length ≤ 4) (hok : ∀ x ∈ L, SlOk x) :
    Calls Tryz.prog 16 #[.slice lp L.length lc] w fun e w' => e = .returned (.map (some w.heap.size)) ∧ w'.ownsMap Tryz.prog 9 (plainElem (H := Unit) Tryz.prog 3) w.heap.size L.length (tabD L) ∧ Below w.heap.size w w' := by
  have HP := hid hp
  have HK := hid hok
  have hmm := @run_makeMap Tryz.prog
  clear hp hok
  go_enter Tryz.func16, Tryz.ntmps16
  go_wp2_with fail
  go_loopw [9] (fun i wr => ∃ k : Nat, k ≤ L.length ∧ i = .int .i64 k ∧ wr.ownsMap Tryz.prog 9 (plainElem (H := Unit) Tryz.prog 3) w.heap.size k (tabD (L.take k)) ∧ Below w.heap.size w wr) (fun i _ => L.length - (intOf i).toNat)
  case atStart => exact ⟨0, by omega, rfl, World.ownsMap_made _ _ _ _, (Below.refl _ _).alloc (Nat.le_refl _) _⟩
  case round =>
    obtain ⟨k, hk, rfl, hown, hbl⟩ := hrel
    have HO := hid hown
    have HB := hid hbl
    have hzr : w.heap.size ≤ wr.heap.size := hbl.size
    have hbw : w.heap.size < wr.heap.size := hown.lt
    clear hown hbl
    by_cases hlt : k < L.length
    · rcases HP.out with h0 | ⟨b, rfl, hat⟩
      · rw [h0] at hlt; simp at hlt
      have HA := hid (hat.ext (S := fun _ => False) (Ext.of_below HB.out) id)
      obtain ⟨c0, c1⟩ := HA.out k _ (List.getElem?_eq_getElem hlt)
      have HX := hid (List.getElem?_eq_getElem hlt)
      have HKx := hid (HK.out _ (List.getElem_mem hlt))
      generalize L[k] = x at c0 c1 HX HKx
      obtain ⟨x1, x2⟩ := x
      dsimp only at c0 c1
      have hv : -1099511627776 ≤ x2 ∧ x2 ≤ 1099511627776 := HKx.out.2
      have hkey : keyOf Tryz.prog 9 (.string x1) = some (.string x1.data.toList) := keyOf_string_mk Tryz.underlying9 (by have := HKx.out.1; unfold maxLen; dsimp only at this; omega)
      have hwf := WalkArith.wf_i64 (n := x2) (by omega)
      go_wp2_with (at_mapUpdate; refine wpList_mapUpdate_own _ rfl _ _ _ 43 rfl 9 3 klaw Tryz.underlying43 _ w.heap.size k _ rfl (HO.out.alloc _) (by unfold maxLen; omega) _ _ _ rfl rfl hkey _ [] (plainElem_int Tryz.underlying3 hwf) ?_; intro w1 hown1 hgrow1)
      have R1 := (tab_step L k (x1, x2) HX.out).symm ▸ hown1
      have R2 := (HB.out.alloc hzr (.cells #[.string x1, .int .i64 x2] 86)).grown hgrow1 (by simp; omega) (fun j hj => by cases hj; exact Nat.le_refl _)
      clear hown1 hgrow1
      go_wp2_with fail
      go_roundw
      case rel => exact ⟨k + 1, by omega, by go_num, R1, R2⟩
      case measure => simp [intOf]; omega
    · have hkl : k = L.length := by omega
      subst hkl
      go_wp2_with fail
      go_ret
      exact ⟨rfl, by have := HO.out; rwa [List.take_length] at this, HB.out⟩
theorem tab_at (s : List UInt8) : ∀ (L : List (ByteArray × Int)) (D : DataW Unit) (v : Int), IsMap D → D.atKey (.string s) (.lit (.int .i64 0)) = .lit (.int .i64 v) →
    (L.foldl (fun D x => D.put (.string x.1.data.toList) (.lit (.int .i64 x.2))) D).atKey (.string s) (.lit (.int .i64 0)) = .lit (.int .i64 (L.foldl (fun v x => if x.1.data.toList = s then x.2 else v) v))
  | [], _, _, _, h => h
  | x :: r, D, v, hD, h => by
    simp only [List.foldl_cons]
    by_cases e : x.1.data.toList = s
    · subst e
      rw [if_pos rfl]
      exact tab_at _ r _ _ (hD.put _ _) (atKey_put_same hD (show WideAt.IsKeyLit (.string x.1.data.toList) from trivial) _ _)
    · rw [if_neg e]
      exact tab_at s r _ _ (hD.put _ _) ((atKey_put_other (by intro k; exact e (Lit.string.inj k).symm) _ _).trans h)
theorem tabD_at (s : List UInt8) (L : List (ByteArray × Int)) : (tabD L).atKey (.string s) (.lit (.int .i64 0)) = .lit (.int .i64 (valL s L)) := tab_at s L _ _ isMap_empty rfl
end Go.Proofs.YtkgciohebloffaaGreat
/- ValueOf, the reference's. -/
namespace Go.Proofs.YtkgciohebloffaaGreat
open Go.RowKit Go.WideMaps Go.Maps

/-- Values of expressions in a row. -/
def valF (L : List (ByteArray × Int)) : F → List Int
  | .nil => []
  | .cons op n s a r => (if op = 1 then n else if op = 2 then valL s.data.toList L else compV op (valF L a)) :: valF L r
def valE (L : List (ByteArray × Int)) (op n : Int) (s : ByteArray) (a : F) : Int := if op = 1 then n else if op = 2 then valL s.data.toList L else compV op (valF L a)
theorem valF_cons (L : List (ByteArray × Int)) (op n : Int) (s : ByteArray) (a r : F) : valF L (.cons op n s a r) = valE L op n s a :: valF L r := rfl
theorem valF_length (L : List (ByteArray × Int)) : ∀ f : F, (valF L f).length = f.len
  | .nil => rfl
  | .cons _ _ _ _ r => by simp [valF, F.len, valF_length L r]
def SlGood (L : List (ByteArray × Int)) : Prop := ∀ x ∈ L, V999 x.2
theorem valL_in (s : List UInt8) : ∀ (L : List (ByteArray × Int)) (v : Int), SlGood L → V999 v → V999 (L.foldl (fun v x => if x.1.data.toList = s then x.2 else v) v)
  | [], _, _, h => h
  | x :: r, v, hg, h => by
    simp only [List.foldl_cons]
    refine valL_in s r _ (fun y hy => hg y (by simp [hy])) ?_
    split
    · exact hg x (by simp)
    · exact h
theorem val_in {L : List (ByteArray × Int)} (hg : SlGood L) : ∀ f : F, f.Small → ∀ b ∈ valF L f, V999 b
  | .nil, _, b, hb => by simp [valF] at hb
  | .cons op n s a r, h, b, hb => by
    rw [valF_cons] at hb
    rcases List.mem_cons.1 hb with rfl | hb
    · unfold valE
      split
      · exact h.1.2.1
      split
      · exact valL_in _ L 0 hg ⟨by omega, by omega⟩
      · exact comp_in (val_in hg a h.2.1)
    · exact val_in hg r h.2.2 b hb

theorem ownsMap_ext {H : Type} {S : Nat → Prop} {w w' : World} {P : Program} {k : TypeId} {R : Value → Option (DataW H × List MemPlace)} {b n : Nat} {D : DataW H} (h : w.ownsMap P k R b n D) (e : Ext S w w') (hb : ¬ S b) : w'.ownsMap P k R b n D := by
  have hlt := h.lt
  obtain ⟨es, clock, hh, F, hs, hD⟩ := h
  exact ⟨es, clock, (e.block b hlt hb).trans hh, F, hs, hD⟩

/-- The table lies in block B. -/
def TabAt (w : World) (B : Nat) (L : List (ByteArray × Int)) : Prop := w.ownsMap Tryz.prog 9 (plainElem (H := Unit) Tryz.prog 3) B L.length (tabD L)

set_option maxRecDepth 100000 in
set_option maxHeartbeats 4000000 in
theorem r_value_leaf (L : List (ByteArray × Int)) (B : Nat) (op n : Int) (s : ByteArray) (a : F) (p : Option Addr) (c : Nat) (w : World) (hs : s.size ≤ 200000) (hm : TabAt w B L) (h : op = 1 ∨ op = 2) :
    Calls Tryz.prog 15 #[.agg #[.int .i64 op, .int .i64 n, .string s, .slice p a.len c], .map (some B)] w fun e w' => e = .returned (.int .i64 (valE L op n s a)) ∧ Below w.heap.size w w' := by
  rcases h with rfl | rfl
  · have HE : Hid (valE L 1 n s a = n) := hid (by rw [valE, if_pos rfl])
    go_enter Tryz.func15, Tryz.ntmps15
    go_wp2_with fail
    go_ret
    exact ⟨ret_int (by rw [HE.out]), alloc_below _ _⟩
  · have HE : Hid (valE L 2 n s a = valL s.data.toList L) := hid (by rw [valE, if_neg (by decide), if_pos rfl])
    have HM := hid hm
    have hkey : keyOf Tryz.prog 9 (.string s) = some (.string s.data.toList) := keyOf_string_mk Tryz.underlying9 (by unfold maxLen; omega)
    clear hm
    go_enter Tryz.func15, Tryz.ntmps15
    go_wp2_with (at_lookup; refine wpList_lookup_own_int _ rfl _ _ 43 rfl 9 3 .i64 klaw Tryz.underlying43 Tryz.underlying3 (kzero _) B L.length (tabD L) rfl (HM.out.alloc _) _ _ rfl hkey ?_; intro c hat hwc)
    have hcv : Hid (c = valL s.data.toList L) := hid (by rw [tabD_at] at hat; injection hat with h; injection h with _ h; exact h.symm)
    clear hat hwc
    go_wp2_with fail
    go_ret
    exact ⟨ret_int (by rw [HE.out, hcv.out]), alloc_below _ _⟩
theorem info_int : (Tryz.prog.info? 3).map (fun i => (i.zero, i.size, i.bytes)) = some (some (.int .i64 0), 1, 8) := by kernel_rfl
/-- What holds behind k rounds. -/
def VRel (L : List (ByteArray × Int)) (op n : Int) (s : ByteArray) (a : F) (p : Option Addr) (c : Nat) (w : World) (k : Nat) (v : Value) (wr : World) : Prop :=
  ∃ acc : List Int, acc.length = k ∧ valF L a = acc ++ valF L (a.drop k) ∧ wr.ownsRow (w.heap.size + 1) 3 1 v k (acc.map (Value.int .i64)) ∧
    wr.heap[w.heap.size]? = some (.cells #[.int .i64 op, .int .i64 n, .string s, .slice p a.len c] 28 (0, 0)) ∧ Below w.heap.size w wr ∧ w.heap.size + 1 ≤ wr.heap.size

set_option maxRecDepth 100000 in
set_option maxHeartbeats 4000000 in
theorem r_value_op (m : Nat) (L : List (ByteArray × Int)) (B : Nat) (hg : SlGood L) (ih : ∀ (op n : Int) (s : ByteArray) (a : F) (p : Option Addr) (c : Nat) (fa : List Nat) (w : World), a.size < m → RdP w a p fa → a.len ≤ c → c ≤ 9223372036854775807 → (F.cons op n s a .nil).Fits → (F.cons op n s a .nil).Small → TabAt w B L →
      Calls Tryz.prog 15 #[.agg #[.int .i64 op, .int .i64 n, .string s, .slice p a.len c], .map (some B)] w fun e w' => e = .returned (.int .i64 (valE L op n s a)) ∧ Below w.heap.size w w')
    (op n : Int) (s : ByteArray) (a : F) (p : Option Addr) (c : Nat) (fa : List Nat) (w : World) (ham : a.size ≤ m) (hp : RdP w a p fa) (hac : a.len ≤ c) (hc : c ≤ 9223372036854775807) (hfit : (F.cons op n s a .nil).Fits) (hsm : (F.cons op n s a .nil).Small) (hm : TabAt w B L) (h1 : 3 ≤ op) :
    Calls Tryz.prog 15 #[.agg #[.int .i64 op, .int .i64 n, .string s, .slice p a.len c], .map (some B)] w fun e w' => e = .returned (.int .i64 (valE L op n s a)) ∧ Below w.heap.size w w' := by
  obtain ⟨⟨o1, o2⟩, ⟨n1, n2⟩, hs, hfa, _⟩ := hfit
  obtain ⟨⟨⟨_, k2⟩, ⟨k3, k4⟩, k5⟩, hsa, _⟩ := hsm
  have HP := hid hp
  have HM := hid hm
  have IH := hid ih
  have HFA := hid hfa
  have HSA := hid hsa
  have HK := hid k5
  have HE : Hid (valE L op n s a = compV op (valF L a)) := hid (by rw [valE, if_neg (by omega), if_neg (by omega)])
  have e1 : (op == 1) = false := by simp; omega
  have e2 : (op == 2) = false := by simp; omega
  have hR0 : VRel L op n s a p c w 0 (.slice none 0 0) (w.alloc (.cells #[.int .i64 op, .int .i64 n, .string s, .slice p a.len c] 28)) :=
    ⟨[], rfl, rfl, World.ownsRow_nil _ _ _ _, heap_new w _, alloc_below w _, by simp⟩
  have HR0 := hid hR0
  have hal : (a.len : Int) ≤ 9223372036854775807 := by omega
  have ha3 : a.len ≤ 3 := by have := k5; unfold ar at this; (repeat' split at this) <;> omega
  obtain ⟨i0, hi0, hz0, hz1, hz2⟩ := info_parts info_int
  have HIN : Hid (∀ b ∈ valF L a, V999 b) := hid (val_in hg a hsa)
  clear hp hm ih hfa hsa k5 hR0
  go_enter Tryz.func15, Tryz.ntmps15
  go_wp2_with fail
  go_loopw [5, 23] (fun v i wr => ∃ (k : Nat) (u : Value), k ≤ a.len ∧ i = .int .i64 k ∧ v = u ∧ VRel L op n s a p c w k u wr) (fun _ i _ => a.len - (intOf i).toNat)
  case atStart => exact ⟨0, _, by omega, rfl, rfl, HR0.out⟩
  case round =>
    obtain ⟨k, v, hk, rfl, hgv, acc, hlen, hacc, hown, hE, hbl, hz⟩ := hrel
    subst hgv
    have HA := hid (And.intro hlen hacc)
    have HO := hid hown
    have HEb := hid hE
    have HB := hid hbl
    obtain ⟨⟨q0, q1, q2, q3⟩, f0, f1, f2, f3⟩ := blk4 hE
    have hpr : RdP wr a p fa := HP.out.ext (S := fun _ => False) (Ext.of_below hbl) (fun _ _ => id)
    have HMr := hid (ownsMap_ext (S := fun _ => False) HM.out (Ext.of_below hbl) id)
    clear hlen hacc hown hE hbl
    by_cases hlt : k < a.len
    · rcases hpr with ⟨h0, _⟩ | ⟨b, o, xa, fb, rfl, _, _, hcell, _, hx⟩
      · rw [h0] at hlt; simp [F.len] at hlt
      obtain ⟨op', n', s', a', p', c', fa', hdrop, x0, x1, x2, x3, hl', hc', hp', _⟩ := hx.at hlt
      have y0 := hcell _ _ x0
      have y1 := hcell _ _ x1
      have y2 := hcell _ _ x2
      have y3 := hcell _ _ x3
      simp only [← Nat.add_assoc, Nat.mul_comm 4 k] at y0 y1 y2 y3
      have hfit' : (F.cons op' n' s' a' .nil).Fits := by
        have := F.fits_drop k HFA.out; rw [hdrop] at this; exact ⟨this.1, this.2.1, this.2.2.1, this.2.2.2.1, trivial⟩
      have hsm' : (F.cons op' n' s' a' .nil).Small := by
        have := F.small_drop k HSA.out; rw [hdrop] at this; exact ⟨this.1, this.2.1, trivial⟩
      have hsz' : a'.size < m := by
        have := F.size_split k a hdrop; omega
      have HD := hid hdrop
      have HP' := hid (And.intro hp' (And.intro hl' (And.intro hc' (And.intro hfit' (And.intro hsm' hsz')))))
      clear hcell hx x0 x1 x2 x3 hp' hl' hc' hfit' hsm' hsz' hdrop
      have hkm : k + 1 ≤ maxLen := by unfold maxLen; omega
      go_wp2_with fail
      refine (IH.out op' n' s' a' p' c' fa' _ HP'.out.2.2.2.2.2 (HP'.out.1.ext (S := fun _ => False) ((Ext.refl _).alloc _) (fun _ _ => id)) HP'.out.2.1 HP'.out.2.2.1 HP'.out.2.2.2.1 HP'.out.2.2.2.2.1 (HMr.out.alloc _)).mono ?_
      rintro e w3 ⟨rfl, hb3⟩
      have hz3 : wr.heap.size + 1 ≤ w3.heap.size := by have := hb3.size; simpa using this
      have HB3 := hid ((alloc_below wr _).trans (hb3.mono (by simp)))
      have HO3 := hid (ownsRow_ext (S := fun _ => False) HO.out (Ext.of_below HB3.out) (fun _ _ _ => id))
      clear hb3
      have HEr : Hid (valF L (a.drop k) = valE L op' n' s' a' :: valF L (a.drop (k + 1))) := hid (by rw [HD.out, valF_cons])
      generalize valE L op' n' s' a' = b1 at *
      go_wp2_with (at_builtin; refine wpList_append_lies _ rfl _ _ 22 rfl (w.heap.size + 1) 3 i0 _ 1 8 Tryz.underlying22 hi0 hz0 hz1 hz2 rfl (by decide) _ _ _ (by rfl) (HO3.out.alloc _) ⟨w3.heap.size, 0, none⟩ 1 1 _ rfl rfl (World.news_of_block (heap_alloc_new w3 _)) (fun x hx => by simp at hx; rcases hx with rfl; rfl) (by omega) hkm (by omega) (by simp <;> omega) _ rfl ?_; intro g cap w4 hown4 hgrow hat4 hlt4)
      have hne : ∀ b, b < w.heap.size + 1 → some b ≠ u5.ownBlock := fun b hb e => by have := (HO.out.lt b e.symm).1; omega
      have e4 : Ext (fun b => some b = u5.ownBlock) wr w4 := (((Ext.of_below HB3.out)).alloc _).grown hgrow (fun b hb => .inl hb.symm)
      go_roundw
      case rel =>
        refine ⟨k + 1, _, by omega, by go_num, rfl, acc ++ [b1], by simp [HA.out.1], ?_, ?_, e4.heap HEb.out (hne _ (by omega)), ?_, Nat.le_trans hz e4.size⟩
        · rw [HA.out.2, HEr.out]; simp
        · rw [List.map_append]; exact hown4
        · exact ⟨e4.os.trans HB.out.os, e4.tape.trans HB.out.tape, e4.output.trans HB.out.output, Nat.le_trans HB.out.size e4.size, fun i hi => (e4.block i (by have := HB.out.size; omega) (hne _ (by omega))).trans (HB.out.block i hi)⟩
      case measure => simp [intOf]; omega
    · have hka : k = a.len := by omega
      have hfin : Hid (valF L a = acc) := hid (by rw [HA.out.2, F.eq_nil_of_len (f := a.drop k) (by rw [F.len_drop]; omega)]; simp [valF])
      rw [hfin.out] at HE HIN
      clear hpr
      subst hka
      obtain ⟨gg, cc, rfl, hgb, hgc, hgm, hcell, _⟩ := own_cells HO.out (by have := HK.out; unfold ar at this; (repeat' split at this) <;> omega)
      have HC := hid (show IntsAt wr gg 0 acc from fun i x hx => by rw [Nat.zero_add]; exact hcell i _ (by simp [hx]))
      have hla : a.len = acc.length := HA.out.1.symm
      have HL := hid hla
      clear hcell hla
      go_wp2_with fail
      refine (r_computed op acc gg 0 a.len cc _ h1 k2 (by rw [← HL.out]; exact HK.out) HL.out hgc hgm HC.out HIN.out).mono ?_
      rintro e w5 ⟨rfl, hb5⟩
      have HB5 := hid (HB.out.trans (hb5.mono (by omega)))
      clear hb5
      go_wp2_with fail
      go_ret
      exact ⟨ret_int HE.out.symm, HB5.out⟩
theorem r_ValueOf (L : List (ByteArray × Int)) (B : Nat) (hg : SlGood L) (m : Nat) : ∀ (op n : Int) (s : ByteArray) (a : F) (p : Option Addr) (c : Nat) (fa : List Nat) (w : World), a.size < m → RdP w a p fa → a.len ≤ c → c ≤ 9223372036854775807 → (F.cons op n s a .nil).Fits → (F.cons op n s a .nil).Small → TabAt w B L →
      Calls Tryz.prog 15 #[.agg #[.int .i64 op, .int .i64 n, .string s, .slice p a.len c], .map (some B)] w fun e w' => e = .returned (.int .i64 (valE L op n s a)) ∧ Below w.heap.size w w' := by
  induction m with
  | zero => intro op n s a p c fa w h; omega
  | succ m ih =>
    intro op n s a p c fa w h h1 h2 h3 h4 h5 h6
    by_cases ho : op = 1 ∨ op = 2
    · exact r_value_leaf L B op n s a p c w h4.2.2.1 h6 ho
    · exact r_value_op m L B hg ih op n s a p c fa w (by omega) h1 h2 h3 h4 h5 h6 (by have := h5.1.1; omega)
end Go.Proofs.YtkgciohebloffaaGreat
