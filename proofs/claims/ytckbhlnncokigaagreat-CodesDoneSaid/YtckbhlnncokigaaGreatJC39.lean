/- Texts joined: Try, StackOf. -/
import Derived.Test.YtckbhlnncokigaaGreatJC31
import Derived.Test.YtckbhlnncokigaaGreatJC27
import Derived.Test.YtckbhlnncokigaaGreatJC15
import Derived.Deep.RegionHeld3
import Derived.Laws.EntriesVeiled
/- StackOf's closure, the reference's: all orders are tried. -/
namespace Go.Proofs.YtckbhlnncokigaaGreat
open Go.RowKit

def tryF (n : Nat) (l : List Int) (wt m : Int) : Int → Nat → Int := fun b i => tryN n (l.eraseIdx i) (wt + 1) (max m (wt + l.getD i 0)) b
theorem tryN_succ (n : Nat) (l : List Int) (wt m b : Int) : tryN (n + 1) l wt m b = (List.range (n + 1)).foldl (tryF n l wt m) b := rfl
theorem fold_succ (n : Nat) (l : List Int) (wt m b : Int) (k : Nat) : (List.range (k + 1)).foldl (tryF n l wt m) b = tryF n l wt m ((List.range k).foldl (tryF n l wt m) b) k := by
  rw [List.range_succ, List.foldl_append]; rfl
/-- The blocks of best and of try. -/
def TryAt (w : World) (bb tb : Nat) (b : Int) : Prop :=
  w.heap[bb]? = some (.cells #[.int .i64 b] 3 (0, 0)) ∧ w.cell? ⟨tb, 0, none⟩ = some (.func (.func 95) #[] #[.pointer (some ⟨bb, 0, none⟩), .pointer (some ⟨tb, 0, none⟩)]) ∧ tb ≠ bb
def TrySaid (n : Nat) : Prop := ∀ (l : List Int) (p : Option Addr) (c : Nat) (wt m b : Int) (bb tb : Nat) (w : World), l.length = n → CellsP w p (l.map (Value.int .i64)) → (∀ x, p = some x → x.block ≠ bb) → n ≤ c → c ≤ maxLen → 0 ≤ wt → wt + n ≤ 3 → (∀ x ∈ l, 0 ≤ x ∧ x ≤ 2000) → TryAt w bb tb b →
  Calls Tryz.prog 95 #[.slice p n c, .int .i64 wt, .int .i64 m, .pointer (some ⟨bb, 0, none⟩), .pointer (some ⟨tb, 0, none⟩)] w fun e w' => e = .returned (.tuple #[]) ∧ TryAt w' bb tb (tryN n l wt m b) ∧ Ext (· = bb) w w'
theorem one_cell {w : World} {b : Nat} {v : Value} {T : TypeId} (h : w.heap[b]? = some (.cells #[v] T (0, 0))) : w.cell? ⟨b, 0, none⟩ = some v ∧ w.frozen? ⟨b, 0, none⟩ = false :=
  ⟨by rw [cell_of_row _ _ _ _ _ _ h]; rfl, by simp [World.frozen?, h]⟩
theorem one_set {w : World} {b : Nat} {v u : Value} {T : TypeId} (h : w.heap[b]? = some (.cells #[v] T (0, 0))) : (w.setCell ⟨b, 0, none⟩ u).heap[b]? = some (.cells #[u] T (0, 0)) := by
  simp [World.setCell, Array.getElem?_modify, h]
theorem TryAt.ext {S : Nat → Prop} {w w' : World} {bb tb : Nat} {b : Int} (h : TryAt w bb tb b) (e : Ext S w w') (h1 : ¬ S bb) (h2 : ¬ S tb) : TryAt w' bb tb b :=
  ⟨e.heap h.1 h1, e.cell_some h.2.1 h2, h.2.2⟩

set_option maxHeartbeats 2000000 in
theorem r_try0 : TrySaid 0 := by
  intro l p c wt m b bb tb w hl hp _ hc hcm h0 h1 hb ht
  obtain ⟨hbest, htry, hne⟩ := ht
  obtain ⟨c0, f0⟩ := one_cell hbest
  have HT := hid (And.intro hbest (And.intro htry hne))
  have HTm := hid (show ∀ u, TryAt (w.setCell ⟨bb, 0, none⟩ (.int .i64 u)) bb tb u from fun u => ⟨one_set HT.out.1, ((Ext.refl (S := (· = bb)) w).setCell (p := ⟨bb, 0, none⟩) (.inl rfl) _).cell_some HT.out.2.1 HT.out.2.2, HT.out.2.2⟩)
  have HEm := hid (show ∀ u, Ext (· = bb) w (w.setCell ⟨bb, 0, none⟩ (.int .i64 u)) from fun u => (Ext.refl (S := (· = bb)) w).setCell (p := ⟨bb, 0, none⟩) (.inl rfl) _)
  have hpost : ∀ u, upd m b = u → TryAt (w.setCell ⟨bb, 0, none⟩ (.int .i64 u)) bb tb (tryN 0 l wt m b) := fun u hu => by
    show TryAt _ bb tb (upd m b); rw [hu]; exact HTm.out u
  have HPo := hid hpost
  clear hbest htry hne hp hb hpost hl
  by_cases hb0 : (b == 0) = true
  · have HU := hid (show upd m b = m by unfold upd; rw [if_pos hb0])
    go_enter Tryz.func95, Tryz.ntmps95
    go_wp2
    refine bodyPost_ret (results_none rfl _ _ _) rfl ?_
    exact ⟨rfl, HPo.out _ HU.out, HEm.out _⟩
  · have hb1 : (b == 0) = false := by simpa using hb0
    by_cases hm : decide (m < b) = true
    · have hlt : m < b := by simpa using hm
      have HU := hid (show upd m b = m by unfold upd; rw [if_neg hb0, if_pos hm])
      clear hb0 hm
      go_enter Tryz.func95, Tryz.ntmps95
      go_wp2
      refine bodyPost_ret (results_none rfl _ _ _) rfl ?_
      exact ⟨rfl, HPo.out _ HU.out, HEm.out _⟩
    · have hm1 : decide (m < b) = false := by simpa using hm
      have HU := hid (show upd m b = b by unfold upd; rw [if_neg hb0, if_neg hm])
      clear hb0 hm
      go_enter Tryz.func95, Tryz.ntmps95
      go_wp2
      refine bodyPost_ret (results_none rfl _ _ _) rfl ?_
      exact ⟨rfl, by show TryAt _ bb tb (upd m b); rw [HU.out]; exact HT.out, Ext.refl _⟩

theorem cells_ints {w : World} {g o : Nat} {l : List Int} (h : ∀ (i : Nat) v, (l.map (Value.int .i64))[i]? = some v → w.cell? ⟨g, o + i, none⟩ = some v) : ∀ j, j < l.length → w.cell? ⟨g, o + j, none⟩ = some (.int .i64 (l.getD j 0)) := fun j hj => by
  refine h j _ ?_
  rw [List.getElem?_map, List.getElem?_eq_getElem hj, List.getD_eq_getElem?_getD, List.getElem?_eq_getElem hj]; rfl
theorem one_ints (l : List Int) : ∀ u ∈ l.map (Value.int .i64), u.oneCell' = true := fun u hu => by
  obtain ⟨x, _, rfl⟩ := List.mem_map.1 hu; rfl

set_option maxRecDepth 100000 in
set_option maxHeartbeats 4000000 in
theorem r_try1 (n : Nat) (ih : TrySaid n) : TrySaid (n + 1) := by
  intro l p c wt m b bb tb w hl hp hpb hc hcm h0 h1 hb ht
  obtain ⟨i0, hi0, hz0, hz1, hz2⟩ := info_parts info_int
  have IH := hid ih
  rcases hp with hp | ⟨g, o, rfl, hcell⟩
  · have : l = [] := by simpa using hp
    subst this; simp at hl
  have hgb : g ≠ bb := hpb ⟨g, o, none⟩ rfl
  have HCe := hid hcell
  have HBd := hid hb
  have HL := hid hl
  have HT0 := hid ht
  have hbs : bb < w.heap.size := (Array.getElem?_eq_some_iff.1 ht.1).1
  obtain ⟨N, hN⟩ : ∃ N, N = n + 1 := ⟨_, rfl⟩
  have HN := hid hN
  have hn3 : n + 1 ≤ 3 := by omega
  have hcn : N ≤ c := by omega
  have hN0 : ((N : Int) == 0) = false := by simp; omega
  have hNm : (N : Int) ≤ 3 := by omega
  have hcI : (c : Int) ≤ 9223372036854775807 := by unfold maxLen at hcm; omega
  have hcnI : (N : Int) ≤ c := by omega
  rw [← hN]
  have HR0 := hid (show TryAt w bb tb ((List.range 0).foldl (tryF n l wt m) b) ∧ Ext (· = bb) w w from ⟨ht, Ext.refl _⟩)
  clear ih hb hl ht hpb hcell hN hc
  go_enter Tryz.func95, Tryz.ntmps95
  go_wp2_with fail
  go_loopw [24] (fun i wr => ∃ k : Nat, k ≤ N ∧ i = .int .i64 k ∧ TryAt wr bb tb ((List.range k).foldl (tryF n l wt m) b) ∧ Ext (· = bb) w wr) (fun i _ => N - (intOf i).toNat)
  case atStart => exact ⟨0, by omega, rfl, HR0.out.1, HR0.out.2⟩
  case round =>
    obtain ⟨k, hk, rfl, hta, hext⟩ := hrel
    have HTa := hid hta
    have HE := hid hext
    have hbz : bb < wr.heap.size := Nat.lt_of_lt_of_le hbs hext.size
    by_cases hlt : k < N
    · have hkl : k < l.length := by rw [HL.out, ← HN.out]; exact hlt
      have HCr := hid (fun i v hv => hext.cell_some (p := ⟨g, o + i, none⟩) (HCe.out i v hv) hgb : ∀ (i : Nat) v, (l.map (Value.int .i64))[i]? = some v → wr.cell? ⟨g, o + i, none⟩ = some v)
      have hck : wr.cell? ⟨g, o + k, none⟩ = some (.int .i64 (l.getD k 0)) := cells_ints HCr.out k hkl
      have hxb : 0 ≤ l.getD k 0 ∧ l.getD k 0 ≤ 2000 := by
        rw [List.getD_eq_getElem?_getD, List.getElem?_eq_getElem hkl]
        exact HBd.out _ (List.getElem_mem hkl)
      have HF := hid (fold_succ n l wt m b k)
      have HFd := hid (show tryF n l wt m ((List.range k).foldl (tryF n l wt m) b) k = tryN n (l.eraseIdx k) (wt + 1) (max m (wt + l.getD k 0)) ((List.range k).foldl (tryF n l wt m) b) from rfl)
      generalize hxx : l.getD k 0 = x at hck hxb HFd
      have HXX := hid hxx
      obtain ⟨hx0, hx1⟩ := hxb
      have hcall := Tryz.slices_Clone_int g o k c l wr.drew (by omega) (by omega) (cells_ints HCr.out)
      have HCall := hid hcall
      have htry := hta.2.1
      have hw1 : IntKind.i64.wrap ((k : Int) + 1) = k + 1 := IntWalk.i64_in _ (by omega)
      have hw2 : ((k : Int) + 1).toNat = k + 1 := by omega
      have hw3 : (0 : Int) ≤ (k : Int) + 1 := by omega
      have hw4 : (k : Int) + 1 ≤ N := by omega
      have hw5 : (k : Int) + 1 ≤ c := by omega
      have hkc : (k : Int) ≤ c := by omega
      have HNk := hid (show k + (N - (k + 1)) = n by have := HN.out; omega)
      have HEr := hid (show (l.take k).map (Value.int .i64) ++ (l.drop (k + 1)).map (Value.int .i64) = (l.eraseIdx k).map (Value.int .i64) by rw [List.eraseIdx_eq_take_drop_succ, List.map_append])
      have HLe := hid (show (l.eraseIdx k).length = n by rw [List.length_eraseIdx, if_pos hkl, HL.out]; omega)
      have HBe := hid (fun y hy => HBd.out y (List.mem_of_mem_eraseIdx hy) : ∀ y ∈ l.eraseIdx k, 0 ≤ y ∧ y ≤ 2000)
      have HLd := hid (show ((l.drop (k + 1)).map (Value.int .i64)).length = (N - (k + 1)) * 1 by rw [List.length_map, List.length_drop, HL.out, ← HN.out]; omega)
      have HSrc := hid (show ∀ w5, Ext (fun _ => False) wr w5 → CellsP w5 (some ⟨g, o + (k + 1), none⟩) ((l.drop (k + 1)).map (Value.int .i64)) from fun w5 e5 => .inr ⟨g, o + (k + 1), rfl, fun i v hv => by
        rw [List.map_drop, List.getElem?_drop] at hv
        have := e5.cell_some (p := ⟨g, o + (k + 1 + i), none⟩) (HCr.out _ v hv) id
        rwa [Nat.add_assoc]⟩)
      clear hkl hta hext hcall hxx
-- CASES
      by_cases hfull : c = k + 1
      · obtain rfl : N = c := by omega
        have hfull2 : k + 1 = N := hfull.symm
        have HLd2 := hid (show (l.drop (k + 1)).map (Value.int .i64) = [] from List.eq_nil_of_length_eq_zero (by rw [HLd.out]; omega))
        have HLd := hid (show ((l.drop (k + 1)).map (Value.int .i64)).length = 0 * 1 by rw [HLd2.out]; rfl)
        have HNk := hid (show k + 0 = n by have := HN.out; omega)
        clear hfull
        go_wp2_with fail
        go_region_held3 (fun _ => True)
          (exact trivial)
          (first
            | (go_at_call 96; (with_reducible refine HCall.out.mono ?_); rintro e w5 ⟨v5, rfl, hown5, _, hb5⟩; have E5 := hid ((Ext.refl (S := fun _ => False) wr).drew.trans (Ext.of_below hb5)); obtain ⟨q6, c6, w6, hr6, hown6, hg6, _⟩ := run_app_own (P := Tryz.prog) w5 22 22 3 i0 _ 1 8 Tryz.underlying22 hi0 hz0 hz1 hz2 rfl (by decide) wr.drew.heap.size v5 k _ hown5 (some ⟨g, o, none⟩) 0 0 _ HLd.out (.inl HLd2.out) (one_ints _) (by unfold maxLen; omega) (by omega) hb5.size; rw [HNk.out] at hr6 hown6; rw [HEr.out] at hown6; have HR6 := hid hr6; have HO6 := hid hown6; have E6 := hid (E5.out.grown hg6 (fun b hb => .inr (hown5.lt b hb).1)); clear hown5 hb5 hr6 hown6 hg6)
            | (refine step_app _ rfl _ _ 22 rfl _ _ _ _ rfl rfl HR6.out ?_))
        clear hw1 hw2 hfull2
        have htry6 := E6.out.cell_some htry id
        obtain ⟨q7, c7, hv7, _, hc7, hm7, _⟩ := own_anyN HO6.out
        injection hv7 with e71 _ e73
        subst e71 e73
        have HIH := hid (IH.out (l.eraseIdx k) q6 c6 (wt + 1) (max m (wt + x)) ((List.range k).foldl (tryF n l wt m) b) bb tb w6 HLe.out (CellsP.own HO6.out) (fun y hy e => by subst hy; have := (HO6.out.lt _ rfl).1; simp at this; omega) hc7 hm7 (by omega) (by have := HN.out; omega) HBe.out (HTa.out.ext E6.out id id))
        clear hc7 hm7 htry
        go_wp2_with fail
        refine HIH.out.mono ?_
        rintro e w7 ⟨rfl, ht7, e7⟩
        have HT7 := hid ht7
        have HE7 := hid ((HE.out.trans (E6.out.mono (fun _ _ h => h.elim))).trans e7)
        clear ht7 e7
        go_wp2_with fail
        go_roundw
        case rel => exact ⟨k + 1, by omega, by go_num, by rw [HF.out, HFd.out]; exact HT7.out, HE7.out⟩
        case measure => simp [intOf]; omega
      · skip
        go_wp2_with fail
        go_region_held3 (fun _ => True)
          (exact trivial)
          (first
            | (go_at_call 96; (with_reducible refine HCall.out.mono ?_); rintro e w5 ⟨v5, rfl, hown5, _, hb5⟩; have E5 := hid ((Ext.refl (S := fun _ => False) wr).drew.trans (Ext.of_below hb5)); obtain ⟨q6, c6, w6, hr6, hown6, hg6, _⟩ := run_app_own (P := Tryz.prog) w5 22 22 3 i0 _ 1 8 Tryz.underlying22 hi0 hz0 hz1 hz2 rfl (by decide) wr.drew.heap.size v5 k _ hown5 (some ⟨g, o + (k + 1), none⟩) (N - (k + 1)) (c - (k + 1)) _ HLd.out (HSrc.out w5 E5.out) (one_ints _) (by unfold maxLen; omega) (by omega) hb5.size; rw [HNk.out] at hr6 hown6; rw [HEr.out] at hown6; have HR6 := hid hr6; have HO6 := hid hown6; have E6 := hid (E5.out.grown hg6 (fun b hb => .inr (hown5.lt b hb).1)); clear hown5 hb5 hr6 hown6 hg6)
            | (refine step_app _ rfl _ _ 22 rfl _ _ _ _ rfl rfl HR6.out ?_))
        clear hw1 hw2 
        have htry6 := E6.out.cell_some htry id
        obtain ⟨q7, c7, hv7, _, hc7, hm7, _⟩ := own_anyN HO6.out
        injection hv7 with e71 _ e73
        subst e71 e73
        have HIH := hid (IH.out (l.eraseIdx k) q6 c6 (wt + 1) (max m (wt + x)) ((List.range k).foldl (tryF n l wt m) b) bb tb w6 HLe.out (CellsP.own HO6.out) (fun y hy e => by subst hy; have := (HO6.out.lt _ rfl).1; simp at this; omega) hc7 hm7 (by omega) (by have := HN.out; omega) HBe.out (HTa.out.ext E6.out id id))
        clear hc7 hm7 htry
        go_wp2_with fail
        refine HIH.out.mono ?_
        rintro e w7 ⟨rfl, ht7, e7⟩
        have HT7 := hid ht7
        have HE7 := hid ((HE.out.trans (E6.out.mono (fun _ _ h => h.elim))).trans e7)
        clear ht7 e7
        go_wp2_with fail
        go_roundw
        case rel => exact ⟨k + 1, by omega, by go_num, by rw [HF.out, HFd.out]; exact HT7.out, HE7.out⟩
        case measure => simp [intOf]; omega
    · have HTe := hid (show TryAt wr bb tb (tryN N l wt m b) by
        have h := HTa.out
        rw [show k = n + 1 by have := HN.out; omega] at h
        rw [HN.out]; exact h)
      go_wp2_with fail
      go_end0
      exact ⟨rfl, HTe.out, HE.out⟩
theorem r_try : ∀ n, TrySaid n
  | 0 => r_try0
  | n + 1 => r_try1 n (r_try n)
end Go.Proofs.YtckbhlnncokigaaGreat
/- StackOf, the reference's: the best of all orders. -/
namespace Go.Proofs.YtckbhlnncokigaaGreat
open Go.RowKit

set_option maxRecDepth 100000 in
set_option maxHeartbeats 4000000 in
theorem r_StackOf_one (m : Nat) (hm : m ≤ 1000) (ih : ∀ (op n : Int) (s : ByteArray) (a : F) (p : Option Addr) (c : Nat) (fa : List Nat) (w : World), a.size < m → (F.cons op n s a .nil).Small → RdP w a p fa → a.len ≤ c → c ≤ 9223372036854775807 →
      Calls Tryz.prog 43 #[.agg #[.int .i64 op, .int .i64 n, .string s, .slice p a.len c]] w fun e w' => e = .returned (.int .i64 (plL (plF a))) ∧ Below w.heap.size w w')
    (op n : Int) (s : ByteArray) (a : F) (p : Option Addr) (c : Nat) (fa : List Nat) (w : World) (ham : a.size ≤ m) (hsm : (F.cons op n s a .nil).Small) (hp : RdP w a p fa) (_hac : a.len ≤ c) (_hc : c ≤ 9223372036854775807) :
    Calls Tryz.prog 43 #[.agg #[.int .i64 op, .int .i64 n, .string s, .slice p a.len c]] w fun e w' => e = .returned (.int .i64 (plL (plF a))) ∧ Below w.heap.size w w' := by
  have HP := hid hp
  have IH := hid ih
  have HSm := hid hsm.2.1
  have hal3 : a.len ≤ 3 := by
    have h1 := hsm.1.2.2
    have : ar op ≤ 3 := by unfold ar; (repeat' split) <;> omega
    omega
  have hal : (a.len : Int) ≤ 9223372036854775807 := by omega
  have hmf : ∀ (fn : Fn) (first cap : Array Value) (w : World), (Instr.makeFunc fn first cap).run Tryz.prog w = .ok (.func fn first cap) w := fun _ _ _ _ => rfl
  by_cases hnil : a.len = 0
  · have ha : a = .nil := F.eq_nil_of_len hnil
    subst ha
    have hpl : plL (plF .nil) = 1 := by simp [plF, plL, srt, plG]
    have HPL := hid hpl
    clear hp ih hsm hpl hnil
    go_enter Tryz.func43, Tryz.ntmps43
    go_wp2
    go_ret
    exact ⟨ret_int HPL.out.symm, alloc_below w _⟩
  have hn0 : ((a.len : Int) == 0) = false := by simp; omega
  obtain ⟨i0, hi0, hz0, hz1, hz2⟩ := info_parts info_int
  have HR0 := hid (show NdRel (plF a) op n s a p c w 0 (.slice none 0 0) (w.alloc (.cells #[.int .i64 op, .int .i64 n, .string s, .slice p a.len c] 28)) from ⟨World.ownsRow_nil _ _ _ _, heap_new w _, alloc_below w _, by simp⟩)
  clear hp ih hsm
  go_enter Tryz.func43, Tryz.ntmps43
  go_wp2_with fail
  go_loopw [3, 15] (fun v i wr => ∃ (k : Nat) (u : Value), k ≤ a.len ∧ i = .int .i64 k ∧ v = u ∧ NdRel (plF a) op n s a p c w k u wr) (fun _ i _ => a.len - (intOf i).toNat)
  case atStart => exact ⟨0, _, by omega, rfl, rfl, HR0.out⟩
  case round =>
    obtain ⟨k, v, hk, rfl, hgv, hR⟩ := hrel
    subst hgv
    have HR := hid hR
    obtain ⟨hown, hbox, hbl, hz⟩ := hR
    have HO := hid hown
    have HB := hid hbl
    have hpr : RdP wr a p fa := HP.out.ext (S := fun _ => False) (Ext.of_below hbl) (fun _ _ => id)
    clear hown hbox hbl
    by_cases hlt : k < a.len
    · rcases hpr with ⟨h0, _⟩ | ⟨b, o, xa, fb, rfl, _, _, hcell, _, hx⟩
      · rw [h0] at hlt; simp [F.len] at hlt
      obtain ⟨op', n', s', a', p', c', fa', hdrop, x0, x1, x2, x3, hl', hc', hp', _⟩ := hx.at hlt
      have y0 := hcell _ _ x0
      have y1 := hcell _ _ x1
      have y2 := hcell _ _ x2
      have y3 := hcell _ _ x3
      simp only [← Nat.add_assoc, Nat.mul_comm 4 k] at y0 y1 y2 y3
      have hszk := F.size_split k a hdrop
      have hsmk := F.small_drop k HSm.out
      rw [hdrop] at hsmk
      have HD := hid (show (plF a).drop k = plL (plF a') :: plF (a.drop (k + 1)) by rw [← plF_drop, hdrop]; rfl)
      have HP' := hid (And.intro hp' (And.intro hl' (And.intro hc' (And.intro (show a'.size < m by omega) (show (F.cons op' n' s' a' .nil).Small from ⟨hsmk.1, hsmk.2.1, trivial⟩)))))
      have hpb : plL (plF a') ≤ 1001 := by
        have h1 := plL_le (plF_pos a')
        have h2 := plF_sum a'
        omega
      have hp1 := plL_pos (plF a')
      have E1 := hid ((Ext.refl (S := fun _ => False) wr).alloc (.cells #[.int .i64 op', .int .i64 n', .string s', .slice p' a'.len c'] 28))
      clear hcell hx x0 x1 x2 x3 hp' hl' hc' hdrop hsmk hszk
      go_wp2_with fail
      refine (IH.out op' n' s' a' p' c' fa' _ HP'.out.2.2.2.1 HP'.out.2.2.2.2 (HP'.out.1.ext E1.out (fun _ _ => id)) HP'.out.2.1 HP'.out.2.2.1).mono ?_
      rintro e w3 ⟨rfl, hb3⟩
      have E3 := hid (E1.out.trans (Ext.of_below (S := fun _ => False) hb3))
      have HO3 := hid (ownsRow_ext (S := fun _ => False) HO.out E3.out (fun _ _ _ => id))
      have hz3 : w.heap.size + 1 ≤ w3.heap.size := Nat.le_trans hz E3.out.size
      clear hb3
      generalize plL (plF a') = x at *
      go_wp2_with (at_builtin; refine wpList_append_lies _ rfl _ _ 22 rfl (w.heap.size + 1) 3 i0 _ 1 8 Tryz.underlying22 hi0 hz0 hz1 hz2 rfl (by decide) _ _ _ (by rfl) (HO3.out.alloc _) ⟨w3.heap.size, 0, none⟩ 1 1 [.int .i64 x] rfl rfl (World.news_of_block (heap_alloc_new w3 _)) (fun y hy => by simp at hy; subst hy; rfl) (by omega) (by unfold maxLen; omega) (by omega) (by simp; omega) (w3.heap.size + 1) (by simp) ?_; intro g cap w4 hown4 hgrow hat4 hlt4)
      have e4 : Ext (fun b => some b = u3.ownBlock) wr w4 := (E3.out.mono (fun _ _ h => h.elim)).trans (((Ext.refl w3).alloc _).grown hgrow (fun b hb => .inl hb.symm))
      have HH := hid (nd_next HR.out HD.out hown4 e4)
      clear hown4 hgrow hat4 hlt4 e4
      go_wp2_with fail
      go_roundw
      case rel => exact ⟨k + 1, _, by omega, by go_num, rfl, HH.out⟩
      case measure => simp [intOf]; omega
    · have hkl : k = a.len := by omega
      subst hkl
      have hL : (plF a).length = a.len := plF_length a
      have HO2 := hid (show wr.ownsRow (w.heap.size + 1) 3 1 u3 (plF a).length ((plF a).map (Value.int .i64)) by
        have h := HO.out
        rw [List.take_of_length_le (by omega)] at h
        rw [hL]; exact h)
      have hbd : ∀ x ∈ plF a, 0 ≤ x ∧ x < 100000 := fun x hx => ⟨by have := plF_pos a x hx; omega, by have := plF_le a x hx; omega⟩
      have HBd := hid hbd
      have hmost : plL (plF a) ≤ 1001 := by
        have h1 := plL_le (plF_pos a)
        have h2 := plF_sum a
        omega
      have hzw : w.heap.size ≤ wr.heap.size := HB.out.size
      obtain ⟨ao, ca, hv, ha0, hac2, ham2, hcells⟩ := own_anyN HO2.out
      subst hv
      have hca : (ca : Int) ≤ 9223372036854775807 := by unfold maxLen at ham2; omega
      have hlen : (plF a).length ≤ 3 := by omega
      have HPL := hid (show tryN (plF a).length (plF a) 0 0 0 = plL (plF a) by
        rw [← stL_eq hlen (plF_pos a), stL, if_neg (by intro h; rw [h] at hL; simp at hL; omega)])
      have HTA := hid (show TryAt ((wr.alloc (.cells #[.int .i64 0] 3)).alloc (.cells #[.func (.func 95) #[] #[.pointer (some ⟨wr.heap.size, 0, none⟩), .pointer (some ⟨wr.heap.size + 1, 0, none⟩)]] 133)) wr.heap.size (wr.heap.size + 1) 0 from by
        have h1 := heap_new wr (.cells #[.int .i64 0] 3)
        have h2 := heap_new (wr.alloc (.cells #[.int .i64 0] 3)) (.cells #[.func (.func 95) #[] #[.pointer (some ⟨wr.heap.size, 0, none⟩), .pointer (some ⟨wr.heap.size + 1, 0, none⟩)]] 133)
        rw [show (wr.alloc (.cells #[.int .i64 0] 3)).heap.size = wr.heap.size + 1 by simp] at h2
        exact ⟨((Ext.refl (S := fun _ => False) _).alloc _).heap h1 id, (one_cell h2).1, by omega⟩)
      have HE2 := hid (((Ext.refl (S := fun _ => False) wr).alloc (.cells #[.int .i64 0] 3)).alloc (.cells #[.func (.func 95) #[] #[.pointer (some ⟨wr.heap.size, 0, none⟩), .pointer (some ⟨wr.heap.size + 1, 0, none⟩)]] 133))
      have HPp := hid (And.intro (CellsP.own HO2.out) (And.intro hac2 ham2))
      have hlI : ((plF a).length : Int) ≤ 3 := by omega
      have hown := HO2.out
      have hsep : ∀ x, ao = some x → x.block ≠ wr.heap.size := fun x hx e => by subst hx; have := (hown.lt x.block rfl).2; omega
      have HSep := hid hsep
      have HLL := hid hL
      clear hL ha0 hcells ham2 hown hsep hac2
      go_wp2_with fail
      refine (r_try (plF a).length (plF a) ao ca 0 0 0 wr.heap.size (wr.heap.size + 1) _ rfl (HPp.out.1.ext HE2.out (fun _ _ => id)) HSep.out HPp.out.2.1 HPp.out.2.2 (by omega) (by omega) (fun x hx => ⟨(HBd.out x hx).1, by have := plF_le a x hx; omega⟩) HTA.out).mono ?_
      rintro e w5 ⟨rfl, ht5, e5⟩
      rw [HPL.out] at ht5
      have HB5 := hid (show Below w.heap.size w w5 from (below_ext HB.out HE2.out hzw).trans (show Below w.heap.size _ w5 from ⟨e5.os, e5.tape, e5.output, e5.size, fun i hi => e5.block i (by simp; omega) (by omega)⟩))
      obtain ⟨c5, _⟩ := one_cell ht5.1
      clear ht5 e5
      generalize hpp : plL (plF a) = pp at c5
      have HPP := hid hpp
      clear hpp
      go_wp2_with fail
      go_ret
      exact ⟨ret_int HPP.out.symm, HB5.out⟩
theorem r_StackOf (m : Nat) : m ≤ 1001 → ∀ (op n : Int) (s : ByteArray) (a : F) (p : Option Addr) (c : Nat) (fa : List Nat) (w : World), a.size < m → (F.cons op n s a .nil).Small → RdP w a p fa → a.len ≤ c → c ≤ 9223372036854775807 →
      Calls Tryz.prog 43 #[.agg #[.int .i64 op, .int .i64 n, .string s, .slice p a.len c]] w fun e w' => e = .returned (.int .i64 (plL (plF a))) ∧ Below w.heap.size w w' := by
  induction m with
  | zero => intro _ op n s a p c fa w h; omega
  | succ m ih => intro hm op n s a p c fa w h h0 h1 h2 h3; exact r_StackOf_one m (by omega) (ih (by omega)) op n s a p c fa w (by omega) h0 h1 h2 h3
end Go.Proofs.YtckbhlnncokigaaGreat
