/- Texts joined: BackF, AnCode. -/
import Derived.Test.YtckbhlnncokigaaGreatJC26
import Derived.Test.YtckbhlnncokigaaGreatJC21
import Derived.Test.YtckbhlnncokigaaGreatJC22
import Derived.Test.YtckbhlnncokigaaGreatJC02
/- The stack of expressions behind each word, and what a round of the program's loop leaves. -/
namespace Go.Proofs.YtckbhlnncokigaaGreat
open Go.RowKit

/-- The stack of expressions behind a word. -/
def stepF (x : Int × Int × ByteArray) (st : F) : F := (st.take (st.len - (opsN x.1).toNat)).app (.cons x.1 x.2.1 x.2.2 (st.drop (st.len - (opsN x.1).toNat)) .nil)
def bkF : List (Int × Int × ByteArray) → F → F
  | [], st => st
  | x :: r, st => bkF r (stepF x st)
theorem F.size_take_drop : ∀ (k : Nat) (f : F), (f.take k).size + (f.drop k).size = f.size
  | 0, f => by simp [F.take, F.drop, F.size]
  | _ + 1, .nil => by simp [F.take, F.drop, F.size]
  | k + 1, .cons _ _ _ a r => by have := F.size_take_drop k r; simp only [F.take, F.drop, F.size]; omega
theorem stepF_size (x : Int × Int × ByteArray) (st : F) : (stepF x st).size = st.size + 1 := by
  have := F.size_take_drop (st.len - (opsN x.1).toNat) st
  unfold stepF; rw [F.size_app]; simp only [F.size]; omega
theorem stepF_len {x : Int × Int × ByteArray} {st : F} {f : Nat} (h : (f : Int) = st.len - opsN x.1) : (stepF x st).len = f + 1 := by
  have := opsN_range x.1
  unfold stepF; rw [F.len_app, F.len_take]; simp only [F.len]; omega
theorem stepF_fits {x : Int × Int × ByteArray} {st : F} (h : st.Fits) (hx : WdOk x) : (stepF x st).Fits :=
  F.fits_app (F.fits_take _ h) ⟨hx.1, hx.2.1, hx.2.2, F.fits_drop _ h, trivial⟩
theorem bkF_size : ∀ (L : List (Int × Int × ByteArray)) (st : F), (bkF L st).size = st.size + L.length
  | [], st => by simp [bkF]
  | x :: r, st => by rw [bkF, bkF_size r, stepF_size, List.length_cons]; omega

/-- Four cells of an expression behind those of a row. -/
def exV (op n : Int) (s : ByteArray) (q : Option Addr) (l c : Nat) : List Value := [.int .i64 op, .int .i64 n, .string s, .slice q l c]
def WeRel (L : List (Int × Int × ByteArray)) (base : Nat) (w : World) (k : Nat) (v : Value) (wr : World) : Prop :=
  ∃ (st : F) (xs : List Value) (fp : List Nat), bkF L .nil = bkF (L.drop k) st ∧ cErr (L.drop k) st.len = 0 ∧ st.size = k ∧ st.Fits ∧ RdV wr st xs fp ∧ (∀ b ∈ fp, base ≤ b ∧ v.ownBlock ≠ some b) ∧
    wr.ownsRow base 28 4 v st.len xs ∧ Below w.heap.size w wr ∧ base ≤ wr.heap.size
theorem we_next {L : List (Int × Int × ByteArray)} {base : Nat} {w wr w5 w6 w4 : World} {k n f cap g' cq : Nat} {v : Value} {st : F} {xs : List Value} {fp fq : List Nat} {xo xn : Int} {s : ByteArray} {q : Option Addr}
    (hX : bkF L .nil = bkF (L.drop (k + 1)) (stepF (xo, xn, s) st)) (hC : wErr (xo, xn, s) = 0 ∧ opsN xo ≤ n ∧ cErr (L.drop (k + 1)) (n + (1 - opsN xo)) = 0) (hf : (f : Int) = n - opsN xo) (hn : st.len = n)
    (hsz : st.size = k) (hfit : st.Fits) (hok : WdOk (xo, xn, s)) (hx : RdV wr st xs fp) (hfp : ∀ b ∈ fp, base ≤ b ∧ v.ownBlock ≠ some b) (hown : wr.ownsRow base 28 4 v n xs) (hbl : Below w.heap.size w wr) (hbase : base ≤ wr.heap.size) (hwb : w.heap.size ≤ base)
    (e5 : Ext (fun _ => False) wr w5) (hq : RdP w5 (st.drop f) q fq) (hcq : (st.drop f).len ≤ cq ∧ cq ≤ 9223372036854775807) (hfq : ∀ b ∈ fq, b ∈ fp ∨ wr.heap.size ≤ b) (e6 : Ext (fun _ => False) w5 w6)
    (hown4 : w4.ownsRow base 28 4 (.slice (some ⟨g', 0, none⟩) (f + 1) cap) (f + 1) (xs.take (f * 4) ++ exV xo xn s q (st.drop f).len cq)) (e64 : Ext (fun b => some b = v.ownBlock) w6 w4) (hat : v.ownBlock = some g' ∨ w6.heap.size ≤ g') :
    WeRel L base w (k + 1) (.slice (some ⟨g', 0, none⟩) (f + 1) cap) w4 := by
  have hr := opsN_range xo
  have hvlt : ∀ b, v.ownBlock = some b → base ≤ b ∧ b < wr.heap.size := fun b e => hown.lt b e
  have h56 := e5.size
  have h66 := e6.size
  have h64 := e64.size
  have e4 : Ext (fun b => some b = v.ownBlock) wr w4 := (e5.mono (fun _ _ h => h.elim)).trans ((e6.mono (fun _ _ h => h.elim)).trans e64)
  have hff : st.len - (opsN xo).toNat = f := by omega
  have hs : stepF (xo, xn, s) st = (st.take f).app (.cons xo xn s (st.drop f) .nil) := by unfold stepF; rw [hff]
  have hsl : (stepF (xo, xn, s) st).len = f + 1 := stepF_len (by rw [hn]; exact hf)
  obtain ⟨ft, ht, hsub⟩ := hx.take f
  have hq4 : RdP w4 (st.drop f) q fq := (hq.ext e6 (fun _ _ => id)).ext e64 (fun b hb e => by
    rcases hfq b hb with h | h
    · exact (hfp b h).2 e.symm
    · have := (hvlt b e.symm).2; omega)
  have ht4 : RdV w4 (st.take f) (xs.take (4 * f)) ft := ht.ext e4 (fun b hb e => (hfp b (hsub.subset hb)).2 e.symm)
  have hlt6 : ∀ b ∈ fq, b < w5.heap.size := hq.lt
  refine ⟨stepF (xo, xn, s) st, xs.take (4 * f) ++ exV xo xn s q (st.drop f).len cq, ft ++ fq, hX, ?_, ?_, stepF_fits hfit hok, ?_, ?_, ?_, ?_, ?_⟩
  · rw [hsl]
    have h := hC.2.2
    rwa [show (n : Int) + (1 - opsN xo) = ((f + 1 : Nat) : Int) by omega] at h
  · rw [stepF_size]; omega
  · rw [hs]
    exact RdV.app ht4 ⟨q, cq, fq, [], [], rfl, by simp, hcq.1, hcq.2, ⟨rfl, rfl⟩, hq4⟩
  · intro b hb
    have hne : b ∈ fp ∨ wr.heap.size ≤ b ∧ b < w5.heap.size := by
      rcases List.mem_append.1 hb with h | h
      · exact .inl (hsub.subset h)
      · rcases hfq b h with h' | h'
        · exact .inl h'
        · exact .inr ⟨h', hlt6 b h⟩
    refine ⟨?_, fun e => ?_⟩
    · rcases hne with h | h
      · exact (hfp b h).1
      · omega
    · have e' : g' = b := by simpa [Value.ownBlock] using e
      subst e'
      rcases hat with h | h
      · rcases hne with h' | h'
        · exact (hfp _ h').2 h
        · have := (hvlt _ h).2; omega
      · rcases hne with h' | h'
        · have := hx.lt _ h'; omega
        · omega
  · rw [hsl, Nat.mul_comm 4 f]; exact hown4
  · exact ⟨e4.os.trans hbl.os, e4.tape.trans hbl.tape, e4.output.trans hbl.output, Nat.le_trans hbl.size e4.size, fun i hi => (e4.block i (by have := hbl.size; omega) (fun e => by have := (hvlt i e.symm).1; omega)).trans (hbl.block i hi)⟩
  · omega

/-- Four cells of a block of four are written: the block. -/
theorem set4_heap {w : World} {b : Nat} {v0 v1 v2 v3 a0 a1 a2 a3 : Value} {T : TypeId} (h : w.heap[b]? = some (.cells #[v0, v1, v2, v3] T (0, 0))) :
    ((((w.setCell ⟨b, 0, none⟩ a0).setCell ⟨b, 1, none⟩ a1).setCell ⟨b, 2, none⟩ a2).setCell ⟨b, 3, none⟩ a3).heap[b]? = some (.cells #[a0, a1, a2, a3] T (0, 0)) := by
  simp [World.setCell, Array.getElem?_modify, h]
theorem own_takeN {w : World} {base : Nat} {e : TypeId} {size : Nat} {ao : Option Addr} {n c : Nat} {xs : List Value} (h : w.ownsRow base e size (.slice ao n c) n xs) {k : Nat} (hk : k ≤ n) : w.ownsRow base e size (.slice ao k c) k (xs.take (k * size)) := by
  obtain ⟨h1, h2⟩ := h
  have hks : k * size ≤ n * size := Nat.mul_le_mul_right _ hk
  refine ⟨by rw [List.length_take]; omega, ?_⟩
  rcases h2 with ⟨h2, h3⟩ | ⟨g, cap, cur, h2, h3, h4, h5, h6, h7, h8⟩
  · injection h2 with e1 e2 e3
    subst e1 e2 e3
    obtain rfl : k = 0 := by omega
    exact .inl ⟨rfl, rfl⟩
  · injection h2 with e1 e2 e3
    subst e1 e3
    refine .inr ⟨g, c, cur, rfl, h3, h4, by omega, h6, h7, ?_⟩
    rw [← h8, List.take_take, Nat.min_eq_left hks]
theorem own_anyN {w : World} {base : Nat} {e : TypeId} {size : Nat} {v : Value} {n : Nat} {xs : List Value} (h : w.ownsRow base e size v n xs) :
    ∃ (ao : Option Addr) (ca : Nat), v = .slice ao n ca ∧ (ao = none → n = 0 ∧ ca = 0) ∧ n ≤ ca ∧ ca ≤ maxLen ∧ ∀ b, ao = some b → ∃ g, b = ⟨g, 0, none⟩ ∧ base ≤ g ∧ ∀ (i : Nat) u, xs[i]? = some u → w.cell? ⟨g, i, none⟩ = some u := by
  rcases h.2 with ⟨rfl, rfl⟩ | ⟨g, cap, cur, hv, hb, hg, h1, h2, h3, h4⟩
  · exact ⟨none, 0, rfl, (fun _ => ⟨rfl, rfl⟩), Nat.le_refl _, by decide, (fun b hb => by cases hb)⟩
  · refine ⟨some ⟨g, 0, none⟩, cap, hv, (fun h => by cases h), h1, h2, fun b hb' => ⟨g, by injection hb' with h; exact h.symm, hb, fun i u hu => ?_⟩⟩
    rw [cell_of_row _ _ _ _ _ _ hg]
    rw [← h4, List.getElem?_take] at hu
    split at hu
    · simpa using hu
    · cases hu
/-- The cells behind a place of a row. -/
theorem own_drop {w : World} {g f k : Nat} {xs : List Value} (hc : ∀ (i : Nat) u, xs[i]? = some u → w.cell? ⟨g, i, none⟩ = some u) (hk : k = f * 4) : CellsP w (some ⟨g, k, none⟩) (xs.drop (4 * f)) :=
  .inr ⟨g, k, rfl, fun i v hv => by
    rw [List.getElem?_drop] at hv
    have := hc _ v hv
    rwa [show 4 * f + i = k + i by omega] at this⟩
end Go.Proofs.YtckbhlnncokigaaGreat
/- AnExprCode: code in new memory, nearly always right. -/
namespace Go.Proofs.YtckbhlnncokigaaGreat
open Go.RowKit
section
variable {sb : Nat} {a : Option Addr} {len cap : Nat} {zs : List Int} {at_ : Int}

theorem ptF_ok : ∀ {f : F}, f.Fits → ∀ x ∈ ptF f, WdOk x
  | .nil, _, x, hx => by simp [ptF] at hx
  | .cons op n s a r, ⟨h1, h2, h3, h4, h5⟩, x, hx => by
    simp only [ptF, List.mem_append, List.mem_cons] at hx
    rcases hx with hx | rfl | hx
    · exact ptF_ok h4 x hx
    · exact ⟨h1, h2, h3⟩
    · exact ptF_ok h5 x hx
theorem ptE_ok {op n : Int} {s : ByteArray} {f : F} (h : (F.cons op n s f .nil).Fits) : ∀ x ∈ ptE op n s f, WdOk x := fun x hx => by
  have := ptF_ok h x
  rw [ptF_cons] at this
  exact this (List.mem_append_left _ hx)
theorem wd_setN {w : World} {g i : Nat} {L : List (Int × Int × ByteArray)} (h : WdAt w g L) (hi : i < L.length) (v : Int) :
    WdAt (w.setCell ⟨g, i * 3 + 1, none⟩ (.int .i64 v)) g (L.set i ((L[i]).1, v, (L[i]).2.2)) := fun j y hy => by
  by_cases hij : i = j
  · subst hij
    have hy' : y = ((L[i]).1, v, (L[i]).2.2) := by rw [List.getElem?_set_self hi] at hy; simpa using hy.symm
    subst hy'
    obtain ⟨c0, c1, c2⟩ := h i _ (List.getElem?_eq_getElem hi)
    exact ⟨(World.cell?_setCell_other _ _ _ _ (by simp)).trans c0, World.cell?_setCell_same _ _ _ c1, (World.cell?_setCell_other _ _ _ _ (by simp)).trans c2⟩
  · rw [List.getElem?_set_ne hij] at hy
    obtain ⟨c0, c1, c2⟩ := h j y hy
    exact ⟨(World.cell?_setCell_other _ _ _ _ (by simp <;> omega)).trans c0, (World.cell?_setCell_other _ _ _ _ (by simp <;> omega)).trans c1, (World.cell?_setCell_other _ _ _ _ (by simp <;> omega)).trans c2⟩
theorem wd_setS {w : World} {g i : Nat} {L : List (Int × Int × ByteArray)} (h : WdAt w g L) (hi : i < L.length) (v : ByteArray) :
    WdAt (w.setCell ⟨g, i * 3 + 2, none⟩ (.string v)) g (L.set i ((L[i]).1, (L[i]).2.1, v)) := fun j y hy => by
  by_cases hij : i = j
  · subst hij
    have hy' : y = ((L[i]).1, (L[i]).2.1, v) := by rw [List.getElem?_set_self hi] at hy; simpa using hy.symm
    subst hy'
    obtain ⟨c0, c1, c2⟩ := h i _ (List.getElem?_eq_getElem hi)
    exact ⟨(World.cell?_setCell_other _ _ _ _ (by simp)).trans c0, (World.cell?_setCell_other _ _ _ _ (by simp)).trans c1, World.cell?_setCell_same _ _ _ c2⟩
  · rw [List.getElem?_set_ne hij] at hy
    obtain ⟨c0, c1, c2⟩ := h j y hy
    exact ⟨(World.cell?_setCell_other _ _ _ _ (by simp <;> omega)).trans c0, (World.cell?_setCell_other _ _ _ _ (by simp <;> omega)).trans c1, (World.cell?_setCell_other _ _ _ _ (by simp <;> omega)).trans c2⟩
def GotCode (w w' : World) (e : Ending) : Prop :=
  ∃ (L : List (Int × Int × ByteArray)) (p : Option Addr) (c : Nat), e = .returned (.slice p L.length c) ∧ WdP w' L p ∧ L.length ≤ 151 ∧ L.length ≤ c ∧ c ≤ maxLen ∧ (∀ x ∈ L, WdOk x) ∧ ∀ b, p.map (·.block) = some b → w.heap.size ≤ b

set_option maxRecDepth 100000 in
set_option maxHeartbeats 4000000 in
theorem code_any (w : World) (h : Str w sb a len cap zs at_) (hat : at_ ≤ 800000000) :
    Calls Tryz.prog 36 #[.pointer (some ⟨sb, 0, none⟩)] w fun e w' => GotCode w w' e ∧ Went sb a len cap zs at_ 13000 w w' := by
  have HS0 := h.size
  have H0 := hid h
  obtain ⟨i0, hi0, hz0, hz1, hz2⟩ := info_parts info_word
  clear h
  go_enter Tryz.func36, Tryz.ntmps36
  go_wp2_with fail
  refine (right_any _ H0.out hat).mono ?_
  rintro e w2 ⟨⟨op, n, s, f, p, c, fa, rfl, h1, h2, h3, h4, h5, h6, _⟩, hw2⟩
  obtain ⟨at2, hs2, hle2⟩ := hw2.2
  have HX := hid (And.intro h1 (And.intro h2 (And.intro h3 (And.intro h5 h6))))
  have HS2 := hid hs2
  have HE2 := hid hw2.1
  have hz2' := hw2.1.size
  clear h1 h2 h3 h4 h5 h6 hs2 hw2
  go_wp2_with fail
  refine (r_CodeOf op n s f p c fa _ (by have := HX.out.2.2.2.2; omega) HX.out.1 HX.out.2.1 HX.out.2.2.1).mono ?_
  rintro e w3 ⟨⟨v3, rfl, hown⟩, hb3⟩
  have HL3 := hid (show (ptE op n s f).length ≤ 150 by rw [ptE_length]; exact HX.out.2.2.2.2)
  have HOk := hid (ptE_ok HX.out.2.2.2.1)
  have hl0 : 0 < (ptE op n s f).length := by rw [ptE_length]; omega
  obtain ⟨g, cc, rfl, hg, hlc, hcm, hcell, hfr⟩ := own_cells hown hl0
  have E3 := Ext.of_below (S := fun _ => False) hb3
  have HE3 := hid (HE2.out.trans (E3.mono (fun _ _ h => h.elim)))
  have HS3 := hid (HS2.out.ext E3 id (fun _ _ => id))
  have HWd := hid (wdAt_of hcell)
  have HFr := hid hfr
  have HO3 := hid hown
  have hg' : w.heap.size ≤ g := by omega
  clear hb3 hown hcell hfr E3 HX HE2 HS2
  generalize hL : ptE op n s f = L at *
  clear hL
  generalize hnn : L.length = m at *
  have HNn := hid hnn
  clear hnn
  have hm0 : (0 : Int) < m := by omega
  have hlI : (m : Int) ≤ 150 := by have := HL3.out; omega
  have hcI : (cc : Int) ≤ 9223372036854775807 := by unfold maxLen at hcm; omega
  have hmc : (m : Int) ≤ cc := by omega
  go_wp2_with fail
  refine (flip_any 4 _ HS3.out (by omega) (by omega) (by omega)).mono ?_
  rintro e w4 ⟨⟨r, rfl⟩, hw4⟩
  obtain ⟨at4, hs4, hle4⟩ := hw4.2
  have HE4 := hid (HE3.out.trans hw4.1)
  have HWd4 := hid (show WdAt w4 g L from fun i x hx => by
    obtain ⟨c0, c1, c2⟩ := HWd.out i x hx
    exact ⟨hw4.1.cell_some c0 (by show ¬ g = sb; omega), hw4.1.cell_some c1 (by show ¬ g = sb; omega), hw4.1.cell_some c2 (by show ¬ g = sb; omega)⟩)
  have HS4 := hid hs4
  have HE34 := hid hw4.1
  clear hs4 hw4
  cases r with
  | false =>
    go_wp2_with fail
    go_ret
    exact ⟨⟨L, _, cc, by rw [HNn.out]; rfl, .inr ⟨g, rfl, HWd4.out⟩, by rw [HNn.out]; omega, by rw [HNn.out]; omega, hcm, HOk.out, fun b hb => by simp at hb; omega⟩, HE4.out, at4, HS4.out, by omega⟩
  | true =>
    go_wp2_with fail
    refine (next_any sb a len cap zs at4 m _ HS4.out (by omega) (by omega) (by omega)).mono ?_
    rintro e w5 ⟨⟨i, rfl, hi0', hi1⟩, hw5⟩
    obtain ⟨at5, hs5, hle5⟩ := hw5.2
    have HE5 := hid hw5.1
    have HS5 := hid hs5
    clear hs5 hw5
    go_wp2_with fail
    refine (next_any sb a len cap zs at5 4 _ HS5.out (by omega) (by omega) (by omega)).mono ?_
    rintro e w6 ⟨⟨r, rfl, hr0, hr1⟩, hw6⟩
    obtain ⟨at6, hs6, hle6⟩ := hw6.2
    have HE36 := hid (HE34.out.trans (HE5.out.trans hw6.1))
    have HE6 := hid (HE3.out.trans HE36.out)
    have HS6 := hid hs6
    clear hs6 hw6
    obtain ⟨k, rfl⟩ : ∃ k : Nat, i = (k : Int) := ⟨i.toNat, by omega⟩
    have hkm : k < m := by omega
    have HWd6 := hid (show WdAt w6 g L from fun i x hx => by
      obtain ⟨c0, c1, c2⟩ := HWd.out i x hx
      exact ⟨HE36.out.cell_some c0 (by show ¬ g = sb; omega), HE36.out.cell_some c1 (by show ¬ g = sb; omega), HE36.out.cell_some c2 (by show ¬ g = sb; omega)⟩)
    have HO6 := hid (show w6.ownsRow w2.heap.size 78 3 (.slice (some ⟨g, 0, none⟩) m cc) m (wdV L) from ownsRow_ext HO3.out HE36.out (fun b hb _ e => by have : b = sb := e; omega))
    rcases (show r = 0 ∨ r = 1 ∨ r = 2 ∨ r = 3 by omega) with rfl | rfl | rfl | rfl
    · go_wp2_with fail
      refine (w_Delete L g m cc k w2.heap.size _ HNn.out HO6.out hkm).mono ?_
      rintro e w7 ⟨rfl, hwd, e7⟩
      have HWd7 := hid hwd
      have HE7 := hid (HE6.out.trans_new e7 (fun i hi h => by have : i = g := h; omega))
      have HS7 := hid (HS6.out.ext e7 (by show ¬ sb = g; omega) (fun b hb => by show ¬ b = g; omega))
      have HLen := hid (show (L.eraseIdx k).length = m - 1 by rw [List.length_eraseIdx, if_pos (by rw [HNn.out]; exact hkm), HNn.out])
      clear hwd e7
      go_wp2_with fail
      go_ret
      exact ⟨⟨L.eraseIdx k, _, cc, by rw [HLen.out]; rfl, .inr ⟨g, rfl, HWd7.out⟩, by rw [HLen.out]; omega, by rw [HLen.out]; omega, hcm, fun x hx => HOk.out x (List.mem_of_mem_eraseIdx hx), fun b hb => by simp at hb; omega⟩, HE7.out, at6, HS7.out, by omega⟩
    · go_wp2_with fail
      refine (odd_any 1 9 _ HS6.out (by omega) (by omega) (by omega) (by omega)).mono ?_
      rintro e w7 ⟨⟨r, ⟨hr2, hr3⟩, rfl⟩, hw7⟩
      obtain ⟨at7, hs7, hle7⟩ := hw7.2
      have HE7 := hid (HE6.out.trans hw7.1)
      have HS7 := hid hs7
      have HO7 := hid (ownsRow_ext HO6.out hw7.1 (fun b hb _ e => by have : b = sb := e; omega))
      clear hs7 hw7
      go_wp2_with fail
      refine (pick_new 3 [0, 0, 5] _ _ HS7.out (by omega) rfl (by omega) (by omega)).mono ?_
      rintro e w8 ⟨⟨r2, hr4, rfl⟩, hw8⟩
      obtain ⟨at8, hs8, hle8⟩ := hw8.2
      have HE8 := hid (HE7.out.trans hw8.1)
      have HS8 := hid hs8
      have HO8 := hid (ownsRow_ext HO7.out hw8.1 (fun b hb _ e => by have : b = sb := e; omega))
      have HR2 := hid (show -1099511627776 ≤ r2 ∧ r2 ≤ 1099511627776 by simp at hr4; omega)
      have hz8 : w2.heap.size ≤ w8.heap.size := by have h1 := HO8.out.lt g rfl; omega
      clear hs8 hw8 hr4
      go_wp2_with (at_builtin; refine wpList_append_lies _ rfl _ _ 67 rfl w2.heap.size 78 i0 _ 3 32 Tryz.underlying67 hi0 hz0 hz1 hz2 rfl (by decide) _ _ _ (by rfl) (HO8.out.alloc _) ⟨w8.heap.size, 0, none⟩ 1 1 [.int .i64 r, .int .i64 r2, .string ⟨#[]⟩] rfl rfl (World.news_of_block (heap_alloc_new w8 _)) (fun x hx => by simp at hx; rcases hx with rfl | rfl | rfl <;> rfl) (by omega) (by unfold maxLen; omega) (by omega) (by simp; omega) (w8.heap.size + 1) (by simp) ?_; intro g9 c9 w9 hown9 hgrow9 hat9 hlt9)
      have e9 : Ext (· = g) w8 w9 := ((Ext.refl w8).alloc _).grown hgrow9 (fun b hb => .inl (by simpa [Value.ownBlock] using hb.symm))
      have HE9 := hid (HE8.out.trans_new e9 (fun i hi h => by have : i = g := h; omega))
      have HS9 := hid (HS8.out.ext e9 (by show ¬ sb = g; omega) (fun b hb => by show ¬ b = g; omega))
      have HO9 := hid (show w9.ownsRow w2.heap.size 78 3 (.slice (some ⟨g9, 0, none⟩) (m + 1) c9) (L ++ [(r, r2, (⟨#[]⟩ : ByteArray))]).length (wdV (L ++ [(r, r2, (⟨#[]⟩ : ByteArray))])) by
        rw [wdV_app, List.length_append, HNn.out]; exact hown9)
      have HLen := hid (show (L ++ [(r, r2, (⟨#[]⟩ : ByteArray))]).length = m + 1 by rw [List.length_append, HNn.out]; rfl)
      clear hown9 hgrow9 hat9 hlt9 e9
      go_wp2_with fail
      go_ret
      obtain ⟨q, cq, hv, hwd, hlc9, hcm9, hb9⟩ := words_end HO9.out
      injection hv with e1 _ e3
      subst e1 e3
      exact ⟨⟨L ++ [(r, r2, ⟨#[]⟩)], _, c9, by rw [HLen.out]; rfl, hwd, by rw [HLen.out]; omega, hlc9, hcm9, fun x hx => by
        rcases List.mem_append.1 hx with hx | hx
        · exact HOk.out x hx
        · simp at hx; subst hx; exact ⟨⟨hr2, hr3⟩, HR2.out, by show (0 : Nat) ≤ 200000; omega⟩, fun b hb => by have h1 := hb9 _ rfl; simp at hb h1; omega⟩, HE9.out, at8, HS9.out, by omega⟩
    · go_wp2_with fail
      refine (odd_any 0 999 _ HS6.out (by omega) (by omega) (by omega) (by omega)).mono ?_
      rintro e w7 ⟨⟨r, ⟨hr2, hr3⟩, rfl⟩, hw7⟩
      obtain ⟨at7, hs7, hle7⟩ := hw7.2
      have HE7 := hid (HE6.out.trans hw7.1)
      have HS7 := hid hs7
      have hwd7 : WdAt w7 g L := fun i x hx => by
        obtain ⟨c0, c1, c2⟩ := HWd6.out i x hx
        exact ⟨hw7.1.cell_some c0 (by show ¬ g = sb; omega), hw7.1.cell_some c1 (by show ¬ g = sb; omega), hw7.1.cell_some c2 (by show ¬ g = sb; omega)⟩
      have HWd7 := hid hwd7
      have hkL : k < L.length := by rw [HNn.out]; exact hkm
      obtain ⟨_, q1, _⟩ := hwd7 k _ (List.getElem?_eq_getElem hkL)
      obtain ⟨_, _, hv, _, _, _, _, hfr7⟩ := own_cells (ownsRow_ext HO6.out hw7.1 (fun b hb _ e => by have : b = sb := e; omega)) hl0
      injection hv with e1 _ e3
      injection e1 with e1
      injection e1 with e1
      subst e1 e3
      have f1 := hfr7 (k * 3 + 1)
      have HKL := hid hkL
      have HWn := hid (wd_setN hwd7 hkL r)
      have HEn := hid (HE7.out.setCell (p := ⟨g, k * 3 + 1, none⟩) (.inr hg') (.int .i64 r))
      have HSn := hid (HS7.out.ext ((Ext.refl (S := (· = g)) w7).setCell (p := ⟨g, k * 3 + 1, none⟩) (.inl rfl) (.int .i64 r)) (by show ¬ sb = g; omega) (fun b hb => by show ¬ b = g; omega))
      have HOkn := hid (show ∀ x ∈ L.set k ((L[k]).1, r, (L[k]).2.2), WdOk x from fun x hx => by
        rcases List.mem_or_eq_of_mem_set hx with hx | rfl
        · exact HOk.out x hx
        · have h := HOk.out _ (List.getElem_mem hkL); exact ⟨h.1, ⟨hr2, hr3⟩, h.2.2⟩)
      have HLen := hid (show (L.set k ((L[k]).1, r, (L[k]).2.2)).length = m by rw [List.length_set, HNn.out])
      generalize L.set k ((L[k]).1, r, (L[k]).2.2) = L' at *
      clear hwd7 hfr7 hw7
      go_wp2_with fail
      go_ret
      exact ⟨⟨L', _, cc, by rw [HLen.out]; rfl, .inr ⟨g, rfl, HWn.out⟩, by rw [HLen.out]; omega, by rw [HLen.out]; omega, hcm, HOkn.out, fun b hb => by simp at hb; omega⟩, HEn.out, at7, HSn.out, by omega⟩
    · go_wp2_with fail
      refine (some_new 3 [⟨#[]⟩, ⟨#[120]⟩, ⟨#[105, 102]⟩] _ _ HS6.out (by omega) rfl (by omega) (by omega)).mono ?_
      rintro e w7 ⟨⟨r, hr2, rfl⟩, hw7⟩
      obtain ⟨at7, hs7, hle7⟩ := hw7.2
      have HE7 := hid (HE6.out.trans hw7.1)
      have HS7 := hid hs7
      have HR2 := hid (show r.size ≤ 200000 by simp at hr2; rcases hr2 with rfl | rfl | rfl <;> decide)
      have hwd7 : WdAt w7 g L := fun i x hx => by
        obtain ⟨c0, c1, c2⟩ := HWd6.out i x hx
        exact ⟨hw7.1.cell_some c0 (by show ¬ g = sb; omega), hw7.1.cell_some c1 (by show ¬ g = sb; omega), hw7.1.cell_some c2 (by show ¬ g = sb; omega)⟩
      have HWd7 := hid hwd7
      have hkL : k < L.length := by rw [HNn.out]; exact hkm
      obtain ⟨_, _, q1⟩ := hwd7 k _ (List.getElem?_eq_getElem hkL)
      obtain ⟨_, _, hv, _, _, _, _, hfr7⟩ := own_cells (ownsRow_ext HO6.out hw7.1 (fun b hb _ e => by have : b = sb := e; omega)) hl0
      injection hv with e1 _ e3
      injection e1 with e1
      injection e1 with e1
      subst e1 e3
      have f1 := hfr7 (k * 3 + 2)
      have HKL := hid hkL
      have HWn := hid (wd_setS hwd7 hkL r)
      have HEn := hid (HE7.out.setCell (p := ⟨g, k * 3 + 2, none⟩) (.inr hg') (.string r))
      have HSn := hid (HS7.out.ext ((Ext.refl (S := (· = g)) w7).setCell (p := ⟨g, k * 3 + 2, none⟩) (.inl rfl) (.string r)) (by show ¬ sb = g; omega) (fun b hb => by show ¬ b = g; omega))
      have HOkn := hid (show ∀ x ∈ L.set k ((L[k]).1, (L[k]).2.1, r), WdOk x from fun x hx => by
        rcases List.mem_or_eq_of_mem_set hx with hx | rfl
        · exact HOk.out x hx
        · have h := HOk.out _ (List.getElem_mem hkL); exact ⟨h.1, h.2.1, HR2.out⟩)
      clear hr2
      have HLen := hid (show (L.set k ((L[k]).1, (L[k]).2.1, r)).length = m by rw [List.length_set, HNn.out])
      generalize L.set k ((L[k]).1, (L[k]).2.1, r) = L' at *
      clear hwd7 hfr7 hw7
      go_wp2_with fail
      go_ret
      exact ⟨⟨L', _, cc, by rw [HLen.out]; rfl, .inr ⟨g, rfl, HWn.out⟩, by rw [HLen.out]; omega, by rw [HLen.out]; omega, hcm, HOkn.out, fun b hb => by simp at hb; omega⟩, HEn.out, at7, HSn.out, by omega⟩
end
end Go.Proofs.YtckbhlnncokigaaGreat
