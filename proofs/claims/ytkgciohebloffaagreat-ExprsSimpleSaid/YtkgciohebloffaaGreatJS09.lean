/- Texts joined: Spans. -/
import Derived.Test.YtkgciohebloffaaGreatJS03
/- SpanList: spans in new memory. -/
namespace Go.Proofs.YtkgciohebloffaaGreat
open Go.RowKit
section
variable {sb : Nat} {a : Option Addr} {len cap : Nat} {zs : List Int} {at_ : Int}

/-- The cells of spans in a row. -/
def spV : List (ByteArray × Int × Int) → List Value
  | [] => []
  | x :: r => .string x.1 :: .int .i64 x.2.1 :: .int .i64 x.2.2 :: spV r
theorem spV_length : ∀ L, (spV L).length = L.length * 3
  | [] => rfl
  | x :: r => by simp [spV, spV_length r]; omega
theorem spV_app : ∀ L M, spV (L ++ M) = spV L ++ spV M
  | [], M => rfl
  | x :: r, M => by simp [spV, spV_app r M]
/-- A span whose parts are small. -/
def SpOk (x : ByteArray × Int × Int) : Prop := x.1.size ≤ 2 ∧ (-1099511627776 ≤ x.2.1 ∧ x.2.1 ≤ 1099511627776) ∧ (-1099511627776 ≤ x.2.2 ∧ x.2.2 ≤ 1099511627776)
/-- The spans lie in block b. -/
def SpAt (w : World) (b : Nat) (L : List (ByteArray × Int × Int)) : Prop :=
  ∀ i x, L[i]? = some x → w.cell? ⟨b, i * 3, none⟩ = some (.string x.1) ∧ w.cell? ⟨b, i * 3 + 1, none⟩ = some (.int .i64 x.2.1) ∧ w.cell? ⟨b, i * 3 + 2, none⟩ = some (.int .i64 x.2.2)
theorem spV_get : ∀ L i x, L[i]? = some x → (spV L)[i * 3]? = some (.string x.1) ∧ (spV L)[i * 3 + 1]? = some (.int .i64 x.2.1) ∧ (spV L)[i * 3 + 2]? = some (.int .i64 x.2.2)
  | y :: r, 0, x, h => by simp at h; subst h; simp [spV]
  | y :: r, i + 1, x, h => by
    have := spV_get r i x (by simpa using h)
    rw [show (i + 1) * 3 = i * 3 + 1 + 1 + 1 by omega]
    simpa [spV] using this
theorem own_cells {w : World} {base : Nat} {e : TypeId} {size : Nat} {v : Value} {n : Nat} {xs : List Value} (h : w.ownsRow base e size v n xs) (hn : 0 < n) :
    ∃ g cap, v = .slice (some ⟨g, 0, none⟩) n cap ∧ base ≤ g ∧ n ≤ cap ∧ cap ≤ maxLen ∧ (∀ (i : Nat) u, xs[i]? = some u → w.cell? ⟨g, i, none⟩ = some u) ∧ ∀ i, w.frozen? ⟨g, i, none⟩ = false := by
  rcases h.2 with ⟨_, h0⟩ | ⟨g, cap, cur, hv, hb, hg, h1, h2, h3, h4⟩
  · omega
  · refine ⟨g, cap, hv, hb, h1, h2, fun i u hu => ?_, fun i => by simp [World.frozen?, hg]⟩
    rw [cell_of_row _ _ _ _ _ _ hg]
    rw [← h4, List.getElem?_take] at hu
    split at hu
    · simpa using hu
    · cases hu
theorem SpAt.ext {S : Nat → Prop} {w w' : World} {b : Nat} {L : List (ByteArray × Int × Int)} (h : SpAt w b L) (e : Ext S w w') (hb : ¬ S b) : SpAt w' b L := fun i x hx => by
  obtain ⟨h0, h1, h2⟩ := h i x hx
  exact ⟨e.cell_some h0 hb, e.cell_some h1 hb, e.cell_some h2 hb⟩
theorem SpAt.set {w : World} {b : Nat} {L : List (ByteArray × Int × Int)} (h : SpAt w b L) {i : Nat} (hi : i < L.length) (x : ByteArray × Int × Int) :
    SpAt (((w.setCell ⟨b, i * 3, none⟩ (.string x.1)).setCell ⟨b, i * 3 + 1, none⟩ (.int .i64 x.2.1)).setCell ⟨b, i * 3 + 2, none⟩ (.int .i64 x.2.2)) b (L.set i x) := fun j y hy => by
  have hx := h i _ (List.getElem?_eq_getElem hi)
  obtain ⟨c0, c1, c2⟩ := hx
  by_cases hij : i = j
  · subst hij
    have : y = x := by rw [List.getElem?_set_self hi] at hy; simpa using hy.symm
    subst this
    refine ⟨?_, ?_, ?_⟩
    · rw [World.cell?_setCell_other _ _ _ _ (by simp), World.cell?_setCell_other _ _ _ _ (by simp), World.cell?_setCell_same _ _ _ c0]
    · rw [World.cell?_setCell_other _ _ _ _ (by simp), World.cell?_setCell_same _ _ _ (by rw [World.cell?_setCell_other _ _ _ _ (by simp)]; exact c1)]
    · rw [World.cell?_setCell_same _ _ _ (by rw [World.cell?_setCell_other _ _ _ _ (by simp), World.cell?_setCell_other _ _ _ _ (by simp <;> omega)]; exact c2)]
  · rw [List.getElem?_set_ne hij] at hy
    obtain ⟨d0, d1, d2⟩ := h j y hy
    refine ⟨?_, ?_, ?_⟩
    · rw [World.cell?_setCell_other _ _ _ _ (by simp <;> omega), World.cell?_setCell_other _ _ _ _ (by simp <;> omega), World.cell?_setCell_other _ _ _ _ (by simp <;> omega)]; exact d0
    · rw [World.cell?_setCell_other _ _ _ _ (by simp <;> omega), World.cell?_setCell_other _ _ _ _ (by simp <;> omega), World.cell?_setCell_other _ _ _ _ (by simp <;> omega)]; exact d1
    · rw [World.cell?_setCell_other _ _ _ _ (by simp <;> omega), World.cell?_setCell_other _ _ _ _ (by simp <;> omega), World.cell?_setCell_other _ _ _ _ (by simp <;> omega)]; exact d2
theorem info_span : (Tryz.prog.info? 114).map (fun i => (i.zero, i.size, i.bytes)) = some (some (.agg #[.string ⟨#[]⟩, .int .i64 0, .int .i64 0]), 3, 32) := by kernel_rfl

def SpRel (sb : Nat) (a : Option Addr) (len cap : Nat) (zs : List Int) (at_ : Int) (w : World) (nb k : Nat) (v : Value) (wr : World) : Prop :=
  ∃ (L : List (ByteArray × Int × Int)) (at' : Int), L.length ≤ k ∧ wr.ownsRow (nb + 1) 114 3 v L.length (spV L) ∧ (∀ x ∈ L, SpOk x) ∧
    wr.heap[nb]? = some (.cells #[.string ⟨#[120]⟩, .string ⟨#[121]⟩, .string ⟨#[122]⟩] 9 (0, 0)) ∧ Str wr sb a len cap zs at' ∧ at' ≤ at_ + 3 * k ∧ Ext (· = sb) w wr ∧ nb < wr.heap.size

/-- Spans in new memory. -/
def SomeSpans (sb : Nat) (a : Option Addr) (len cap : Nat) (zs : List Int) (at_ d : Int) (w : World) (e : Ending) (w' : World) : Prop :=
  (∃ (L : List (ByteArray × Int × Int)) (p : Option Addr) (c : Nat), e = .returned (.slice p L.length c) ∧ (L = [] ∨ ∃ b, p = some ⟨b, 0, none⟩ ∧ w.heap.size ≤ b ∧ SpAt w' b L) ∧ L.length ≤ 3 ∧ (∀ x ∈ L, SpOk x) ∧ L.length ≤ c ∧ c ≤ maxLen) ∧ Went sb a len cap zs at_ d w w'

set_option maxRecDepth 100000 in
set_option maxHeartbeats 2000000 in
theorem spans_any (w : World) (h : Str w sb a len cap zs at_) (hat : at_ ≤ 900000000) :
    Calls Tryz.prog 32 #[.pointer (some ⟨sb, 0, none⟩)] w (SomeSpans sb a len cap zs at_ 20 w) := by
  have H := hid h
  have HS := h.size
  obtain ⟨i0, hi0, hz0, hz1, hz2⟩ := info_parts info_span
  have hrel0 : SpRel sb a len cap zs at_ w w.heap.size 0 (.slice none 0 0) (w.alloc (.cells #[.string ⟨#[120]⟩, .string ⟨#[121]⟩, .string ⟨#[122]⟩] 9)) :=
    ⟨[], at_, by simp, World.ownsRow_nil _ _ _ _, by simp, heap_new _ _, h.alloc _, by omega, (Ext.refl w).alloc _, by simp⟩
  have HR0 := hid hrel0
  clear h hrel0
  go_enter Tryz.func32, Tryz.ntmps32
  go_wp2_with fail
  go_loopw [3, 10] (fun v i wr => ∃ (k : Nat) (u : Value), k ≤ 3 ∧ i = .int .i64 k ∧ v = u ∧ SpRel sb a len cap zs at_ w w.heap.size k u wr) (fun _ i _ => 3 - (intOf i).toNat)
  case atStart => exact ⟨0, _, by omega, rfl, rfl, HR0.out⟩
  case round =>
    obtain ⟨k, v, hk, rfl, hgv, L, at', hlen, hown, hok, hnb, hs, hat', hext, hnbs⟩ := hrel
    have HO := hid hown
    have HK := hid hok
    have HN := hid hnb
    have HSn := hid hs
    have HE := hid hext
    subst hgv
    have hkm : L.length + 1 ≤ maxLen := by unfold maxLen; omega
    clear hown hok hnb hs hext
    by_cases hk3 : k = 3
    · by_cases hL : L = []
      · subst hL
        obtain ⟨p, c, hv, hc⟩ : ∃ p c, u3 = .slice p 0 c ∧ c ≤ maxLen := by
          rcases HO.out.2 with ⟨h1, _⟩ | ⟨g, c, cur, h1, _, _, _, hc, _⟩
          · exact ⟨_, _, h1, by decide⟩
          · exact ⟨_, _, h1, hc⟩
        subst hv
        go_wp2_with fail
        go_ret
        exact ⟨⟨[], p, c, rfl, .inl rfl, by simp, by simp, by simp, hc⟩, HE.out, at', HSn.out, by omega⟩
      · obtain ⟨g, c, rfl, hg, hlc, hcm, hcell, hfz⟩ := own_cells HO.out (by have := List.length_pos_iff.2 hL; omega)
        have hL1 : (0 : Int) < L.length := by have := List.length_pos_iff.2 hL; omega
        have HA := hid (show SpAt wr g L from fun i x hx => by obtain ⟨h0, h1, h2⟩ := spV_get L i x hx; exact ⟨hcell _ _ h0, hcell _ _ h1, hcell _ _ h2⟩)
        have HF := hid hfz
        clear hcell hfz
        go_wp2_with fail
        refine (flip_any 15 _ HSn.out (by omega) (by omega) (by omega)).mono ?_
        rintro e w1 ⟨⟨r, rfl⟩, hw1⟩
        obtain ⟨at1, h1, hle1⟩ := hw1.2
        have H1 := hid h1
        have HW1 := hid hw1.1
        clear h1 hw1
        cases r
        · go_wp2_with fail
          go_ret
          exact ⟨⟨L, _, c, rfl, .inr ⟨g, rfl, by omega, HA.out.ext HW1.out (by omega)⟩, by omega, HK.out, hlc, hcm⟩, HE.out.trans HW1.out, at1, H1.out, by omega⟩
        · go_wp2_with fail
          refine (next_any sb a len cap zs at1 _ _ H1.out (by omega) (by omega) (by omega)).mono ?_
          rintro e w2 ⟨⟨r2, rfl, hr0, hr1⟩, hw2⟩
          obtain ⟨at2, h2, hle2⟩ := hw2.2
          have H2 := hid h2
          have HW2 := hid hw2.1
          clear h2 hw2
          obtain ⟨i, rfl⟩ : ∃ i : Nat, r2 = i := ⟨r2.toNat, by omega⟩
          have hiL : i < L.length := by omega
          have HA2 := hid ((HA.out.ext HW1.out (by omega)).ext HW2.out (by omega))
          obtain ⟨c0, c1, c2⟩ := HA2.out i _ (List.getElem?_eq_getElem hiL)
          have hyk : Hid (SpOk L[i]) := hid (HK.out _ (List.getElem_mem hiL))
          generalize L[i] = y at c0 c1 c2 hyk
          go_wp2_with fail
          refine (some_new 4 [y.1, ⟨#[]⟩, ⟨#[120]⟩, ⟨#[122, 122]⟩] _ _ H2.out (by omega) rfl (by omega) (by omega)).mono ?_
          rintro e w3 ⟨⟨s, hs, rfl⟩, hw3⟩
          obtain ⟨at3, h3, hle3⟩ := hw3.2
          have H3 := hid h3
          have HW3 := hid hw3.1
          have hs' : Hid (s.size ≤ 2) := hid (by
            have hy1 := hyk.out.1
            simp at hs
            rcases hs with rfl | rfl | rfl | rfl <;> first | exact hy1 | decide)
          clear h3 hw3 hs
          go_wp2_with fail
          refine (odd_any 0 999 _ H3.out (by omega) (by omega) (by omega) (by omega)).mono ?_
          rintro e w4 ⟨⟨n1, hn1, rfl⟩, hw4⟩
          obtain ⟨at4, h4, hle4⟩ := hw4.2
          have H4 := hid h4
          have HW4 := hid hw4.1
          clear h4 hw4
          go_wp2_with fail
          refine (odd_any 0 999 _ H4.out (by omega) (by omega) (by omega) (by omega)).mono ?_
          rintro e w5 ⟨⟨n2, hn2, rfl⟩, hw5⟩
          obtain ⟨at5, h5, hle5⟩ := hw5.2
          have H5 := hid h5
          have HW5 := hid hw5.1
          clear h5 hw5 c0 c1 c2
          have HX := hid ((((HW1.out.trans HW2.out).trans HW3.out).trans HW4.out).trans HW5.out)
          have HA5 := hid (HA.out.ext HX.out (by omega))
          obtain ⟨c0, c1, c2⟩ := HA5.out i _ (List.getElem?_eq_getElem hiL)
          have hgs : g < wr.heap.size := World.block_lt_of_cell? _ _ (HA.out i _ (List.getElem?_eq_getElem hiL)).1
          have hfr := fun j => (HX.out.frozen (p := ⟨g, j, none⟩) hgs (by show g ≠ sb; omega)).trans (HF.out j)
          have f0 := hfr (i * 3)
          have f1 := hfr (i * 3 + 1)
          have f2 := hfr (i * 3 + 2)
          clear hfr
          generalize L[i] = y' at c0 c1 c2
          go_wp2_with fail
          go_ret
          have hset := HA5.out.set hiL (s, n1, n2)
          have he := ((((Ext.refl (S := (· = g)) w5).setCell (p := ⟨g, i * 3, none⟩) (.inl rfl) (.string s)).setCell (p := ⟨g, i * 3 + 1, none⟩) (.inl rfl) (.int .i64 n1)).setCell (p := ⟨g, i * 3 + 2, none⟩) (.inl rfl) (.int .i64 n2))
          refine ⟨⟨L.set i (s, n1, n2), _, c, by simp, .inr ⟨g, rfl, by omega, hset⟩, by simp; omega, ?_, by simpa using hlc, hcm⟩, ?_⟩
          · intro z hz
            rcases List.mem_or_eq_of_mem_set hz with hz | rfl
            · exact HK.out z hz
            · exact ⟨hs'.out, hn1, hn2⟩
          · exact ⟨(HE.out.trans HX.out).trans_new he (fun b hb e => by omega), at5, H5.out.ext he (by omega) (fun b hb => by omega), by omega⟩
    · obtain ⟨s, hs2, hcell⟩ : ∃ s : ByteArray, Hid (s.size ≤ 2) ∧ wr.cell? ⟨w.heap.size, k, none⟩ = some (.string s) := by
        rcases (show k = 0 ∨ k = 1 ∨ k = 2 by omega) with rfl | rfl | rfl
        · exact ⟨⟨#[120]⟩, hid (by decide), by rw [cell_of_row _ _ _ _ _ _ HN.out]; rfl⟩
        · exact ⟨⟨#[121]⟩, hid (by decide), by rw [cell_of_row _ _ _ _ _ _ HN.out]; rfl⟩
        · exact ⟨⟨#[122]⟩, hid (by decide), by rw [cell_of_row _ _ _ _ _ _ HN.out]; rfl⟩
      go_wp2_with fail
      refine (flip_any 2 _ HSn.out (by omega) (by omega) (by omega)).mono ?_
      rintro e w1 ⟨⟨r, rfl⟩, hw1⟩
      obtain ⟨at1, h1, hle1⟩ := hw1.2
      have H1 := hid h1
      have HW1 := hid hw1.1
      clear h1 hw1
      cases r
      · go_wp2_with fail
        go_roundw
        case rel => exact ⟨k + 1, _, by omega, by go_num, rfl, L, at1, by omega, ownsRow_ext HO.out HW1.out (fun b hb _ => by omega), HK.out, HW1.out.heap HN.out (by omega), H1.out, by omega, HE.out.trans HW1.out, Nat.lt_of_lt_of_le hnbs HW1.out.size⟩
        case measure => simp [intOf]; omega
      · have hz1' := HW1.out.size
        have HO1 := hid (ownsRow_ext HO.out HW1.out (fun b hb _ => by omega))
        have hN1 := HW1.out.heap HN.out (by omega)
        go_wp2_with fail
        refine (pick_new 5 [0, 1, 3, 400, 998] _ _ H1.out (by omega) rfl (by omega) (by omega)).mono ?_
        rintro e w2 ⟨⟨x1, hx1, rfl⟩, hw2⟩
        obtain ⟨at2, h2, hle2⟩ := hw2.2
        have H2 := hid h2
        have HW2 := hid hw2.1
        have hz2' := hw2.1.size
        have hx1' : 0 ≤ x1 ∧ x1 ≤ 998 := by simp at hx1; omega
        clear hx1 h2 hw2
        go_wp2_with fail
        refine (pick_new 5 [0, 1, 5, 100, 700] _ _ H2.out (by omega) rfl (by omega) (by omega)).mono ?_
        rintro e w3 ⟨⟨x2, hx2, rfl⟩, hw3⟩
        obtain ⟨at3, h3, hle3⟩ := hw3.2
        have H3 := hid h3
        have HW3 := hid hw3.1
        have hz3' := hw3.1.size
        have hx2' : 0 ≤ x2 ∧ x2 ≤ 700 := by simp at hx2; omega
        clear hx2 h3 hw3
        have HO3 := hid (ownsRow_ext (S := (· = sb)) (ownsRow_ext (S := (· = sb)) HO1.out HW2.out (fun b hb _ => by omega)) HW3.out (fun b hb _ => by omega))
        go_wp2_with (at_builtin; refine wpList_append_lies _ rfl _ _ 60 rfl (w.heap.size + 1) 114 i0 _ 3 32 Tryz.underlying60 hi0 hz0 hz1 hz2 rfl (by decide) _ _ _ (by rfl) (HO3.out.alloc _) ⟨w3.heap.size, 0, none⟩ 1 1 _ rfl rfl (World.news_of_block (heap_alloc_new w3 _)) (fun x hx => by simp at hx; rcases hx with rfl | rfl | rfl <;> rfl) (by omega) hkm (by omega) (by simp <;> omega) _ rfl ?_; intro g cap w4 hown4 hgrow hat4 hlt4)
        have hy : Hid (0 ≤ (if x1 + x2 < 999 then x1 + x2 else 999) ∧ (if x1 + x2 < 999 then x1 + x2 else 999) ≤ 999) := hid (by split <;> omega)
        generalize (if x1 + x2 < 999 then x1 + x2 else 999) = y at hy hown4 hgrow hat4 ⊢
        have hne : ∀ b, b ≤ w.heap.size → some b ≠ u3.ownBlock := fun b hb e => by have := (HO.out.lt b e.symm).1; omega
        have e4 : Ext (fun b => some b = u3.ownBlock) w3 w4 := ((Ext.refl w3).alloc _).grown hgrow (fun b hb => .inl hb.symm)
        have hs4 := H3.out.ext e4 (hne _ (by omega)) (fun b hb => hne _ (by omega))
        have he4 : Ext (· = sb) w w4 := ((((HE.out.trans HW1.out).trans HW2.out).trans HW3.out).alloc _).grown hgrow (fun b hb => .inr (by have := (HO.out.lt b hb).1; omega))
        have hn4 := e4.heap (HW3.out.heap (HW2.out.heap hN1 (by omega)) (by omega)) (hne _ (Nat.le_refl _))
        go_roundw
        case rel =>
          refine ⟨k + 1, _, by omega, by go_num, rfl, L ++ [(s, x1, y)], at3, by simp <;> omega, ?_, ?_, hn4, hs4, by omega, he4, by have := he4.size; have := e4.size; omega⟩
          · rw [List.length_append, spV_app]; exact hown4
          · intro z hz
            rcases List.mem_append.1 hz with hz | hz
            · exact HK.out z hz
            · simp at hz; subst hz; exact ⟨hs2.out, by show -1099511627776 ≤ x1 ∧ x1 ≤ 1099511627776; omega, by have := hy.out; show -1099511627776 ≤ y ∧ y ≤ 1099511627776; omega⟩
        case measure => simp [intOf]; omega
end
end Go.Proofs.YtkgciohebloffaaGreat
