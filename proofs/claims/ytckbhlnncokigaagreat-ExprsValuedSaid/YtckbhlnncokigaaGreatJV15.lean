/- Texts joined: Vars, Table. -/
import Derived.Test.YtckbhlnncokigaaGreatJV04
import Derived.Maps.Own
import Derived.Maps.OwnOps
import Derived.Maps.Views
/- VarList: variables with their values, in new memory. -/
namespace Go.Proofs.YtckbhlnncokigaaGreat
open Go.RowKit
section
variable {sb : Nat} {a : Option Addr} {len cap : Nat} {zs : List Int} {at_ : Int}

/-- The cells of slots in a row. -/
def slV : List (ByteArray × Int) → List Value
  | [] => []
  | x :: r => .string x.1 :: .int .i64 x.2 :: slV r
theorem slV_length : ∀ L, (slV L).length = L.length * 2
  | [] => rfl
  | x :: r => by simp [slV, slV_length r]; omega
theorem slV_app : ∀ L M, slV (L ++ M) = slV L ++ slV M
  | [], M => rfl
  | x :: r, M => by simp [slV, slV_app r M]
theorem slV_get : ∀ L i x, L[i]? = some x → (slV L)[i * 2]? = some (.string x.1) ∧ (slV L)[i * 2 + 1]? = some (.int .i64 x.2)
  | y :: r, 0, x, h => by simp at h; subst h; simp [slV]
  | y :: r, i + 1, x, h => by
    have := slV_get r i x (by simpa using h)
    rw [show (i + 1) * 2 = i * 2 + 1 + 1 by omega]
    simpa [slV] using this
/-- A slot whose parts are small. -/
def SlOk (x : ByteArray × Int) : Prop := x.1.size ≤ 2 ∧ (-1099511627776 ≤ x.2 ∧ x.2 ≤ 1099511627776)
/-- The slots lie in block b. -/
def SlAt (w : World) (b : Nat) (L : List (ByteArray × Int)) : Prop :=
  ∀ i x, L[i]? = some x → w.cell? ⟨b, i * 2, none⟩ = some (.string x.1) ∧ w.cell? ⟨b, i * 2 + 1, none⟩ = some (.int .i64 x.2)
theorem SlAt.ext {S : Nat → Prop} {w w' : World} {b : Nat} {L : List (ByteArray × Int)} (h : SlAt w b L) (e : Ext S w w') (hb : ¬ S b) : SlAt w' b L := fun i x hx => by
  obtain ⟨h0, h1⟩ := h i x hx
  exact ⟨e.cell_some h0 hb, e.cell_some h1 hb⟩
theorem sl_own {w : World} {base : Nat} {e : TypeId} {size : Nat} {v : Value} {n : Nat} {xs : List Value} (h : w.ownsRow base e size v n xs) (hn : 0 < n) :
    ∃ g cap, v = .slice (some ⟨g, 0, none⟩) n cap ∧ base ≤ g ∧ n ≤ cap ∧ cap ≤ maxLen ∧ (∀ (i : Nat) u, xs[i]? = some u → w.cell? ⟨g, i, none⟩ = some u) ∧ ∀ i, w.frozen? ⟨g, i, none⟩ = false := by
  rcases h.2 with ⟨_, h0⟩ | ⟨g, cap, cur, hv, hb, hg, h1, h2, h3, h4⟩
  · omega
  · refine ⟨g, cap, hv, hb, h1, h2, fun i u hu => ?_, fun i => by simp [World.frozen?, hg]⟩
    rw [cell_of_row _ _ _ _ _ _ hg]
    rw [← h4, List.getElem?_take] at hu
    split at hu
    · simpa using hu
    · cases hu
theorem info_slot : (Tryz.prog.info? 86).map (fun i => (i.zero, i.size, i.bytes)) = some (some (.agg #[.string ⟨#[]⟩, .int .i64 0]), 2, 24) := by kernel_rfl

def SlRel (sb : Nat) (a : Option Addr) (len cap : Nat) (zs : List Int) (at_ : Int) (w : World) (nb k : Nat) (v : Value) (wr : World) : Prop :=
  ∃ (L : List (ByteArray × Int)) (at' : Int), L.length ≤ k ∧ wr.ownsRow (nb + 1) 86 2 v L.length (slV L) ∧ (∀ x ∈ L, SlOk x) ∧
    wr.heap[nb]? = some (.cells #[.string ⟨#[120]⟩, .string ⟨#[121]⟩, .string ⟨#[122]⟩] 9 (0, 0)) ∧ Str wr sb a len cap zs at' ∧ at' ≤ at_ + 3 * k ∧ Ext (· = sb) w wr ∧ nb < wr.heap.size

/-- Slots in new memory. -/
def SlP (w : World) (L : List (ByteArray × Int)) (p : Option Addr) : Prop := L = [] ∨ ∃ b, p = some ⟨b, 0, none⟩ ∧ SlAt w b L
theorem SlP.ext {S : Nat → Prop} {w w' : World} {L : List (ByteArray × Int)} {p : Option Addr} (h : SlP w L p) (e : Ext S w w') (hb : ∀ b, p.map (·.block) = some b → ¬ S b) : SlP w' L p := by
  rcases h with h | ⟨b, rfl, h⟩
  · exact .inl h
  · exact .inr ⟨b, rfl, h.ext e (hb b rfl)⟩
def SomeSlots (sb : Nat) (a : Option Addr) (len cap : Nat) (zs : List Int) (at_ d : Int) (w : World) (e : Ending) (w' : World) : Prop :=
  (∃ (L : List (ByteArray × Int)) (p : Option Addr) (c : Nat), e = .returned (.slice p L.length c) ∧ (L = [] ∨ ∃ b, p = some ⟨b, 0, none⟩ ∧ w.heap.size ≤ b ∧ SlAt w' b L) ∧ L.length ≤ 4 ∧ (∀ x ∈ L, SlOk x) ∧ L.length ≤ c ∧ c ≤ maxLen) ∧ Went sb a len cap zs at_ d w w'
theorem slots_end {w wr : World} {base : Nat} {v : Value} {L : List (ByteArray × Int)} (h : wr.ownsRow base 86 2 v L.length (slV L)) (hb : w.heap.size ≤ base) :
    ∃ p c, v = .slice p L.length c ∧ (L = [] ∨ ∃ b, p = some ⟨b, 0, none⟩ ∧ w.heap.size ≤ b ∧ SlAt wr b L) ∧ L.length ≤ c ∧ c ≤ maxLen := by
  by_cases hL : L = []
  · subst hL
    rcases h.2 with ⟨h1, _⟩ | ⟨g, c, cur, h1, _, _, _, hc, _⟩
    · exact ⟨_, _, h1, .inl rfl, by simp, by decide⟩
    · exact ⟨_, _, h1, .inl rfl, by simp, hc⟩
  · obtain ⟨g, c, rfl, hg, hlc, hcm, hcell, _⟩ := sl_own h (List.length_pos_iff.2 hL)
    exact ⟨_, c, rfl, .inr ⟨g, rfl, by omega, fun i x hx => by obtain ⟨h0, h1⟩ := slV_get L i x hx; exact ⟨hcell _ _ h0, hcell _ _ h1⟩⟩, hlc, hcm⟩

set_option maxRecDepth 100000 in
set_option maxHeartbeats 2000000 in
theorem slots_any (w : World) (h : Str w sb a len cap zs at_) (hat : at_ ≤ 900000000) :
    Calls Tryz.prog 8 #[.pointer (some ⟨sb, 0, none⟩)] w (SomeSlots sb a len cap zs at_ 20 w) := by
  have H := hid h
  have HS := h.size
  obtain ⟨i0, hi0, hz0, hz1, hz2⟩ := info_parts info_slot
  have hrel0 : SlRel sb a len cap zs at_ w w.heap.size 0 (.slice none 0 0) (w.alloc (.cells #[.string ⟨#[120]⟩, .string ⟨#[121]⟩, .string ⟨#[122]⟩] 9)) :=
    ⟨[], at_, by simp, World.ownsRow_nil _ _ _ _, by simp, heap_new _ _, h.alloc _, by omega, (Ext.refl w).alloc _, by simp⟩
  have HR0 := hid hrel0
  clear h hrel0
  go_enter Tryz.func8, Tryz.ntmps8
  go_wp2_with fail
  go_loopw [3, 8] (fun v i wr => ∃ (k : Nat) (u : Value), k ≤ 3 ∧ i = .int .i64 k ∧ v = u ∧ SlRel sb a len cap zs at_ w w.heap.size k u wr) (fun _ i _ => 3 - (intOf i).toNat)
  case atStart => exact ⟨0, _, by omega, rfl, rfl, HR0.out⟩
  case round =>
    obtain ⟨k, v, hk, rfl, hgv, L, at', hlen, hown, hok, hnb, hs, hat', hext, hnbs⟩ := hrel
    have HO := hid hown
    have HK := hid hok
    have HN := hid hnb
    have HSn := hid hs
    have HE := hid hext
    subst hgv
    have hkm : L.length + 1 ≤ maxLen := by unfold maxLen; omega
    clear hown hok hnb hs hext
    by_cases hk3 : k = 3
    · go_wp2_with fail
      refine (flip_any 15 _ HSn.out (by omega) (by omega) (by omega)).mono ?_
      rintro e w1 ⟨⟨r, rfl⟩, hw1⟩
      obtain ⟨at1, h1, hle1⟩ := hw1.2
      have H1 := hid h1
      have HW1 := hid hw1.1
      have hz1' := hw1.1.size
      have HO1 := hid (ownsRow_ext HO.out HW1.out (fun b hb _ => by omega))
      clear h1 hw1
      cases r
      · obtain ⟨p, c, rfl, hat2, hlc, hcm⟩ := slots_end (w := w) HO1.out (by omega)
        have HT := hid hat2
        clear hat2
        go_wp2_with fail
        go_ret
        exact ⟨⟨L, p, c, rfl, HT.out, by omega, HK.out, hlc, hcm⟩, HE.out.trans HW1.out, at1, H1.out, by omega⟩
      · go_wp2_with fail
        refine (some_new 3 [⟨#[120]⟩, ⟨#[65]⟩, ⟨#[122, 122]⟩] _ _ H1.out (by omega) rfl (by omega) (by omega)).mono ?_
        rintro e w3 ⟨⟨s, hs, rfl⟩, hw3⟩
        obtain ⟨at3, h3, hle3⟩ := hw3.2
        have H3 := hid h3
        have HW3 := hid hw3.1
        have hz3' := hw3.1.size
        have hs' : Hid (s.size ≤ 2) := hid (by
          simp at hs
          rcases hs with rfl | rfl | rfl <;> decide)
        clear h3 hw3 hs
        go_wp2_with fail
        refine (odd_any 0 999 _ H3.out (by omega) (by omega) (by omega) (by omega)).mono ?_
        rintro e w4 ⟨⟨n1, hn1, rfl⟩, hw4⟩
        obtain ⟨at4, h4, hle4⟩ := hw4.2
        have H4 := hid h4
        have HW4 := hid hw4.1
        have hz4' := hw4.1.size
        clear h4 hw4
        have HO4 := hid (ownsRow_ext (S := (· = sb)) (ownsRow_ext (S := (· = sb)) HO1.out HW3.out (fun b hb _ => by omega)) HW4.out (fun b hb _ => by omega))
        go_wp2_with (at_builtin; refine wpList_append_lies _ rfl _ _ 30 rfl (w.heap.size + 1) 86 i0 _ 2 24 Tryz.underlying30 hi0 hz0 hz1 hz2 rfl (by decide) _ _ _ (by rfl) (HO4.out.alloc _) ⟨w4.heap.size, 0, none⟩ 1 1 _ rfl rfl (World.news_of_block (heap_alloc_new w4 _)) (fun x hx => by simp at hx; rcases hx with rfl | rfl <;> rfl) (by omega) hkm (by omega) (by simp <;> omega) _ rfl ?_; intro g cap w5 hown5 hgrow hat5 hlt5)
        have hne : ∀ b, b ≤ w.heap.size → some b ≠ u3.ownBlock := fun b hb e => by have := (HO.out.lt b e.symm).1; omega
        have e5 : Ext (fun b => some b = u3.ownBlock) w4 w5 := ((Ext.refl w4).alloc _).grown hgrow (fun b hb => .inl hb.symm)
        have hs5 := H4.out.ext e5 (hne _ (by omega)) (fun b hb => hne _ (by omega))
        have he5 : Ext (· = sb) w w5 := ((((HE.out.trans HW1.out).trans HW3.out).trans HW4.out).alloc _).grown hgrow (fun b hb => .inr (by have := (HO.out.lt b hb).1; omega))
        have hown6 : w5.ownsRow (w.heap.size + 1) 86 2 (.slice (some ⟨g, 0, none⟩) (L.length + 1) cap) (L ++ [(s, n1)]).length (slV (L ++ [(s, n1)])) := by
          rw [List.length_append, slV_app]; exact hown5
        obtain ⟨p, c, hpc, hat2, hlc, hcm⟩ := slots_end (w := w) hown6 (by omega)
        have HT := hid (And.intro hpc (And.intro hat2 (And.intro hlc hcm)))
        have H5 := hid hs5
        have HE5 := hid he5
        clear hpc hat2 hlc hcm hs5 he5 hown6 hown5 hgrow e5 hne
        go_wp2_with fail
        go_ret
        refine ⟨⟨L ++ [(s, n1)], p, c, by rw [← HT.out.1]; rfl, HT.out.2.1, by simp; omega, ?_, HT.out.2.2.1, HT.out.2.2.2⟩, HE5.out, at4, H5.out, by omega⟩
        intro z hz
        rcases List.mem_append.1 hz with hz | hz
        · exact HK.out z hz
        · simp at hz; subst hz; exact ⟨hs'.out, hn1⟩
    · obtain ⟨s, hs2, hcell⟩ : ∃ s : ByteArray, Hid (s.size ≤ 2) ∧ wr.cell? ⟨w.heap.size, k, none⟩ = some (.string s) := by
        rcases (show k = 0 ∨ k = 1 ∨ k = 2 by omega) with rfl | rfl | rfl
        · exact ⟨⟨#[120]⟩, hid (by decide), by rw [cell_of_row _ _ _ _ _ _ HN.out]; rfl⟩
        · exact ⟨⟨#[121]⟩, hid (by decide), by rw [cell_of_row _ _ _ _ _ _ HN.out]; rfl⟩
        · exact ⟨⟨#[122]⟩, hid (by decide), by rw [cell_of_row _ _ _ _ _ _ HN.out]; rfl⟩
      go_wp2_with fail
      refine (flip_any 2 _ HSn.out (by omega) (by omega) (by omega)).mono ?_
      rintro e w1 ⟨⟨r, rfl⟩, hw1⟩
      obtain ⟨at1, h1, hle1⟩ := hw1.2
      have H1 := hid h1
      have HW1 := hid hw1.1
      clear h1 hw1
      cases r
      · go_wp2_with fail
        go_roundw
        case rel => exact ⟨k + 1, _, by omega, by go_num, rfl, L, at1, by omega, ownsRow_ext HO.out HW1.out (fun b hb _ => by omega), HK.out, HW1.out.heap HN.out (by omega), H1.out, by omega, HE.out.trans HW1.out, Nat.lt_of_lt_of_le hnbs HW1.out.size⟩
        case measure => simp [intOf]; omega
      · have hz1' := HW1.out.size
        have HO1 := hid (ownsRow_ext HO.out HW1.out (fun b hb _ => by omega))
        have hN1 := HW1.out.heap HN.out (by omega)
        go_wp2_with fail
        refine (pick_new 7 [0, 1, 2, 5, 7, 500, 999] _ _ H1.out (by omega) rfl (by omega) (by omega)).mono ?_
        rintro e w2 ⟨⟨x1, hx1, rfl⟩, hw2⟩
        obtain ⟨at2, h2, hle2⟩ := hw2.2
        have H2 := hid h2
        have HW2 := hid hw2.1
        have hz2' := hw2.1.size
        have hx1' : 0 ≤ x1 ∧ x1 ≤ 999 := by simp at hx1; omega
        clear hx1 h2 hw2
        have HO2 := hid (ownsRow_ext (S := (· = sb)) HO1.out HW2.out (fun b hb _ => by omega))
        go_wp2_with (at_builtin; refine wpList_append_lies _ rfl _ _ 30 rfl (w.heap.size + 1) 86 i0 _ 2 24 Tryz.underlying30 hi0 hz0 hz1 hz2 rfl (by decide) _ _ _ (by rfl) (HO2.out.alloc _) ⟨w2.heap.size, 0, none⟩ 1 1 _ rfl rfl (World.news_of_block (heap_alloc_new w2 _)) (fun x hx => by simp at hx; rcases hx with rfl | rfl <;> rfl) (by omega) hkm (by omega) (by simp <;> omega) _ rfl ?_; intro g cap w4 hown4 hgrow hat4 hlt4)
        have hne : ∀ b, b ≤ w.heap.size → some b ≠ u3.ownBlock := fun b hb e => by have := (HO.out.lt b e.symm).1; omega
        have e4 : Ext (fun b => some b = u3.ownBlock) w2 w4 := ((Ext.refl w2).alloc _).grown hgrow (fun b hb => .inl hb.symm)
        have hs4 := H2.out.ext e4 (hne _ (by omega)) (fun b hb => hne _ (by omega))
        have he4 : Ext (· = sb) w w4 := (((HE.out.trans HW1.out).trans HW2.out).alloc _).grown hgrow (fun b hb => .inr (by have := (HO.out.lt b hb).1; omega))
        have hn4 := e4.heap (HW2.out.heap hN1 (by omega)) (hne _ (Nat.le_refl _))
        go_roundw
        case rel =>
          refine ⟨k + 1, _, by omega, by go_num, rfl, L ++ [(s, x1)], at2, by simp <;> omega, ?_, ?_, hn4, hs4, by omega, he4, by have := he4.size; have := e4.size; omega⟩
          · rw [List.length_append, slV_app]; exact hown4
          · intro z hz
            rcases List.mem_append.1 hz with hz | hz
            · exact HK.out z hz
            · simp at hz; subst hz; exact ⟨hs2.out, by show -1099511627776 ≤ x1 ∧ x1 ≤ 1099511627776; omega⟩
        case measure => simp [intOf]; omega
end
end Go.Proofs.YtckbhlnncokigaaGreat
/- Table: variables by their names, the reference's. -/
namespace Go.Proofs.YtckbhlnncokigaaGreat
open Go.RowKit Go.WideMaps Go.Maps

theorem klaw : Keyed Tryz.prog 9 := string_keyed Tryz.underlying9
theorem kzero (w : World) : (zeroValue 3).run Tryz.prog w = .ok (.int .i64 0) w := by kernel_rfl

def tabD (L : List (ByteArray × Int)) : DataW Unit := L.foldl (fun D x => D.put (.string x.1.data.toList) (.lit (.int .i64 x.2))) (.map [])
/-- The value of a variable: the last one of its name. -/
def valL (s : List UInt8) (L : List (ByteArray × Int)) : Int := L.foldl (fun v x => if x.1.data.toList = s then x.2 else v) 0

theorem tab_step (L : List (ByteArray × Int)) (k : Nat) (x : ByteArray × Int) (h : L[k]? = some x) : tabD (L.take (k + 1)) = (tabD (L.take k)).put (.string x.1.data.toList) (.lit (.int .i64 x.2)) := by
  unfold tabD
  rw [List.take_add_one, h, List.foldl_append]
  rfl

set_option maxRecDepth 100000 in
set_option maxHeartbeats 2000000 in
theorem r_Table (L : List (ByteArray × Int)) (lp : Option Addr) (lc : Nat) (w : World) (hp : SlP w L lp) (_hlc : L.length ≤ lc) (_hlm : lc ≤ maxLen) (h4 : L.length ≤ 4) (hok : ∀ x ∈ L, SlOk x) :
    Calls Tryz.prog 16 #[.slice lp L.length lc] w fun e w' => e = .returned (.map (some w.heap.size)) ∧ w'.ownsMap Tryz.prog 9 (plainElem (H := Unit) Tryz.prog 3) w.heap.size L.length (tabD L) ∧ Below w.heap.size w w' := by
  have HP := hid hp
  have HK := hid hok
  have hmm := @run_makeMap Tryz.prog
  clear hp hok
  go_enter Tryz.func16, Tryz.ntmps16
  go_wp2_with fail
  go_loopw [9] (fun i wr => ∃ k : Nat, k ≤ L.length ∧ i = .int .i64 k ∧ wr.ownsMap Tryz.prog 9 (plainElem (H := Unit) Tryz.prog 3) w.heap.size k (tabD (L.take k)) ∧ Below w.heap.size w wr) (fun i _ => L.length - (intOf i).toNat)
  case atStart => exact ⟨0, by omega, rfl, World.ownsMap_made _ _ _ _, (Below.refl _ _).alloc (Nat.le_refl _) _⟩
  case round =>
    obtain ⟨k, hk, rfl, hown, hbl⟩ := hrel
    have HO := hid hown
    have HB := hid hbl
    have hzr : w.heap.size ≤ wr.heap.size := hbl.size
    have hbw : w.heap.size < wr.heap.size := hown.lt
    clear hown hbl
    by_cases hlt : k < L.length
    · rcases HP.out with h0 | ⟨b, rfl, hat⟩
      · rw [h0] at hlt; simp at hlt
      have HA := hid (hat.ext (S := fun _ => False) (Ext.of_below HB.out) id)
      obtain ⟨c0, c1⟩ := HA.out k _ (List.getElem?_eq_getElem hlt)
      have HX := hid (List.getElem?_eq_getElem hlt)
      have HKx := hid (HK.out _ (List.getElem_mem hlt))
      generalize L[k] = x at c0 c1 HX HKx
      obtain ⟨x1, x2⟩ := x
      dsimp only at c0 c1
      have hv : -1099511627776 ≤ x2 ∧ x2 ≤ 1099511627776 := HKx.out.2
      have hkey : keyOf Tryz.prog 9 (.string x1) = some (.string x1.data.toList) := keyOf_string_mk Tryz.underlying9 (by have := HKx.out.1; unfold maxLen; dsimp only at this; omega)
      have hwf := WalkArith.wf_i64 (n := x2) (by omega)
      go_wp2_with (at_mapUpdate; refine wpList_mapUpdate_own _ rfl _ _ _ 43 rfl 9 3 klaw Tryz.underlying43 _ w.heap.size k _ rfl (HO.out.alloc _) (by unfold maxLen; omega) _ _ _ rfl rfl hkey _ [] (plainElem_int Tryz.underlying3 hwf) ?_; intro w1 hown1 hgrow1)
      have R1 := (tab_step L k (x1, x2) HX.out).symm ▸ hown1
      have R2 := (HB.out.alloc hzr (.cells #[.string x1, .int .i64 x2] 86)).grown hgrow1 (by simp; omega) (fun j hj => by cases hj; exact Nat.le_refl _)
      clear hown1 hgrow1
      go_wp2_with fail
      go_roundw
      case rel => exact ⟨k + 1, by omega, by go_num, R1, R2⟩
      case measure => simp [intOf]; omega
    · have hkl : k = L.length := by omega
      subst hkl
      go_wp2_with fail
      go_ret
      exact ⟨rfl, by have := HO.out; rwa [List.take_length] at this, HB.out⟩
theorem tab_at (s : List UInt8) : ∀ (L : List (ByteArray × Int)) (D : DataW Unit) (v : Int), IsMap D → D.atKey (.string s) (.lit (.int .i64 0)) = .lit (.int .i64 v) →
    (L.foldl (fun D x => D.put (.string x.1.data.toList) (.lit (.int .i64 x.2))) D).atKey (.string s) (.lit (.int .i64 0)) = .lit (.int .i64 (L.foldl (fun v x => if x.1.data.toList = s then x.2 else v) v))
  | [], _, _, _, h => h
  | x :: r, D, v, hD, h => by
    simp only [List.foldl_cons]
    by_cases e : x.1.data.toList = s
    · subst e
      rw [if_pos rfl]
      exact tab_at _ r _ _ (hD.put _ _) (atKey_put_same hD (show WideAt.IsKeyLit (.string x.1.data.toList) from trivial) _ _)
    · rw [if_neg e]
      exact tab_at s r _ _ (hD.put _ _) ((atKey_put_other (by intro k; exact e (Lit.string.inj k).symm) _ _).trans h)
theorem tabD_at (s : List UInt8) (L : List (ByteArray × Int)) : (tabD L).atKey (.string s) (.lit (.int .i64 0)) = .lit (.int .i64 (valL s L)) := tab_at s L _ _ isMap_empty rfl
end Go.Proofs.YtckbhlnncokigaaGreat
