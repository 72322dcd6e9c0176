/- Texts joined: Right, App. -/
import Derived.Test.YtckbhlnncokigaaGreatJC06
import Derived.Test.YtckbhlnncokigaaGreatJC08
import Derived.Test.YtckbhlnncokigaaGreatJC12
import Derived.Maps.AppendAt
import Derived.Deep.AppendLies
import Derived.Deep.Upon
import Derived.ArgAppend
/- RightExpr: an expression that is right, in new memory. -/
namespace Go.Proofs.YtckbhlnncokigaaGreat
open Go.RowKit
section
variable {sb : Nat} {a : Option Addr} {len cap : Nat} {zs : List Int} {at_ : Int}

/-- Four cells of a block are written. -/
theorem set4 {w : World} {b : Nat} {v0 v1 v2 v3 a0 a1 a2 a3 : Value} (h0 : w.cell? ⟨b, 0, none⟩ = some v0) (h1 : w.cell? ⟨b, 1, none⟩ = some v1) (h2 : w.cell? ⟨b, 2, none⟩ = some v2) (h3 : w.cell? ⟨b, 3, none⟩ = some v3) :
    ((((w.setCell ⟨b, 0, none⟩ a0).setCell ⟨b, 1, none⟩ a1).setCell ⟨b, 2, none⟩ a2).setCell ⟨b, 3, none⟩ a3).cell? ⟨b, 0, none⟩ = some a0 ∧
    ((((w.setCell ⟨b, 0, none⟩ a0).setCell ⟨b, 1, none⟩ a1).setCell ⟨b, 2, none⟩ a2).setCell ⟨b, 3, none⟩ a3).cell? ⟨b, 1, none⟩ = some a1 ∧
    ((((w.setCell ⟨b, 0, none⟩ a0).setCell ⟨b, 1, none⟩ a1).setCell ⟨b, 2, none⟩ a2).setCell ⟨b, 3, none⟩ a3).cell? ⟨b, 2, none⟩ = some a2 ∧
    ((((w.setCell ⟨b, 0, none⟩ a0).setCell ⟨b, 1, none⟩ a1).setCell ⟨b, 2, none⟩ a2).setCell ⟨b, 3, none⟩ a3).cell? ⟨b, 3, none⟩ = some a3 := by
  have o : ∀ (w : World) (i j : Nat) (x : Value), i ≠ j → (w.setCell ⟨b, j, none⟩ x).cell? ⟨b, i, none⟩ = w.cell? ⟨b, i, none⟩ := fun w i j x hij => World.cell?_setCell_other _ _ _ _ (by intro e; cases e; exact hij rfl)
  have e0 := World.cell?_setCell_same w ⟨b, 0, none⟩ a0 h0
  have e1 := World.cell?_setCell_same (w.setCell ⟨b, 0, none⟩ a0) ⟨b, 1, none⟩ a1 ((o _ 1 0 _ (by omega)).trans h1)
  have e2 := World.cell?_setCell_same ((w.setCell ⟨b, 0, none⟩ a0).setCell ⟨b, 1, none⟩ a1) ⟨b, 2, none⟩ a2 ((o _ 2 1 _ (by omega)).trans ((o _ 2 0 _ (by omega)).trans h2))
  have e3 := World.cell?_setCell_same (((w.setCell ⟨b, 0, none⟩ a0).setCell ⟨b, 1, none⟩ a1).setCell ⟨b, 2, none⟩ a2) ⟨b, 3, none⟩ a3 ((o _ 3 2 _ (by omega)).trans ((o _ 3 1 _ (by omega)).trans ((o _ 3 0 _ (by omega)).trans h3)))
  exact ⟨(o _ 0 3 _ (by omega)).trans ((o _ 0 2 _ (by omega)).trans ((o _ 0 1 _ (by omega)).trans e0)), (o _ 1 3 _ (by omega)).trans ((o _ 1 2 _ (by omega)).trans e1), (o _ 2 3 _ (by omega)).trans e2, e3⟩

theorem set4_ext {S : Nat → Prop} {a w : World} {b : Nat} {a0 a1 a2 a3 : Value} (h : Ext S a w) (hp : S b ∨ a.heap.size ≤ b) :
    Ext S a ((((w.setCell ⟨b, 0, none⟩ a0).setCell ⟨b, 1, none⟩ a1).setCell ⟨b, 2, none⟩ a2).setCell ⟨b, 3, none⟩ a3) :=
  (((h.setCell (p := ⟨b, 0, none⟩) hp a0).setCell (p := ⟨b, 1, none⟩) hp a1).setCell (p := ⟨b, 2, none⟩) hp a2).setCell (p := ⟨b, 3, none⟩) hp a3

def GotRight (w w' : World) (e : Ending) : Prop :=
  ∃ (op n : Int) (s : ByteArray) (f : F) (p : Option Addr) (c : Nat) (fa : List Nat), e = .returned (.agg #[.int .i64 op, .int .i64 n, .string s, .slice p f.len c]) ∧ RdP w' f p fa ∧ f.len ≤ c ∧ c ≤ 9223372036854775807 ∧ (∀ b ∈ fa, w.heap.size ≤ b) ∧ (F.cons op n s f .nil).Fits ∧ f.size + 1 ≤ 150 ∧ errE op n s f 1 = 0

set_option maxRecDepth 100000 in
set_option maxHeartbeats 4000000 in
theorem right_any (w : World) (h : Str w sb a len cap zs at_) (hat : at_ ≤ 800000000) :
    Calls Tryz.prog 84 #[.pointer (some ⟨sb, 0, none⟩)] w fun e w' => GotRight w w' e ∧ Went sb a len cap zs at_ 12000 w w' := by
  have HS := h.size
  have E0 := hid ((Ext.refl (S := (· = sb)) w).alloc (.cells #[.int .i64 0, .int .i64 0, .string ⟨#[]⟩, .slice none 0 0] 28))
  have HB := hid (heap_new w (.cells #[.int .i64 0, .int .i64 0, .string ⟨#[]⟩, .slice none 0 0] 28))
  have H0 := hid (h.alloc (.cells #[.int .i64 0, .int .i64 0, .string ⟨#[]⟩, .slice none 0 0] 28))
  clear h
  go_enter Tryz.func84, Tryz.ntmps84
  go_wp2_with fail
  go_loopw [4] (fun i wr => ∃ (k : Nat) (at' : Int), k ≤ 6 ∧ i = .int .i64 k ∧ Str wr sb a len cap zs at' ∧ at' ≤ at_ + 2000 * k ∧ Ext (· = sb) w wr ∧ wr.heap[w.heap.size]? = some (.cells #[.int .i64 0, .int .i64 0, .string ⟨#[]⟩, .slice none 0 0] 28 (0, 0))) (fun i _ => 6 - (intOf i).toNat)
  case atStart => exact ⟨0, at_, by omega, rfl, H0.out, by omega, E0.out, HB.out⟩
  case round =>
    obtain ⟨k, at', hk, rfl, hs, hle, hext, hbk⟩ := hrel
    have HSt := hid hs
    have HE := hid hext
    have HBk := hid hbk
    have hzr := hext.size
    have hwr : w.heap.size < wr.heap.size := by
      exact World.block_lt_of_cell? _ _ (show wr.cell? ⟨w.heap.size, 0, none⟩ = some (.int .i64 0) by rw [cell_of_row _ _ _ _ _ _ hbk]; rfl)
    obtain ⟨⟨q0, q1, q2, q3⟩, f0, f1, f2, f3⟩ := blk4 hbk
    clear hs hext hbk
    by_cases hk6 : k < 6
    · have hki : (k : Int) < 6 := by omega
      go_wp2_with fail
      refine (anexpr_any _ HSt.out (by omega)).mono ?_
      rintro e w2 ⟨⟨op, n, s, f, p, c, fa, rfl, h1, h2, h3, h4, h5, h6⟩, hw2⟩
      obtain ⟨at2, hs2, hle2⟩ := hw2.2
      have HX := hid (And.intro h1 (And.intro h2 (And.intro h3 (And.intro h4 (And.intro h5 h6)))))
      have HS2 := hid hs2
      have HE2 := hid hw2.1
      have hz2 := hw2.1.size
      have HB2 := hid (hw2.1.heap HBk.out (by omega))
      have EA := hid ((Ext.refl (S := fun _ => False) w2).alloc (.cells #[.int .i64 op, .int .i64 n, .string s, .slice p f.len c] 28))
      have HN := hid (heap_new w2 (.cells #[.int .i64 op, .int .i64 n, .string s, .slice p f.len c] 28))
      clear h1 h2 h3 h4 h5 h6 hs2 hw2 q0 q1 q2 q3 f0 f1 f2 f3
      go_wp2_with fail
      refine (q_ExprFault op n s f p c fa _ (HX.out.1.ext EA.out (fun _ _ => id)) HX.out.2.1 HX.out.2.2.1 HX.out.2.2.2.2.1).mono ?_
      rintro e w3 ⟨rfl, hb3⟩
      have E3 := hid (Ext.of_below (S := fun _ => False) hb3)
      have HN3 := hid (E3.out.heap HN.out id)
      have HB3 := hid (E3.out.heap (EA.out.heap HB2.out id) id)
      have HS3 := hid ((HS2.out.alloc (.cells #[.int .i64 op, .int .i64 n, .string s, .slice p f.len c] 28)).ext E3.out id (fun _ _ => id))
      have HR3 := hid ((HX.out.1.ext EA.out (fun _ _ => id)).ext E3.out (fun _ _ => id))
      have HE3 := hid ((HE.out.trans HE2.out).trans ((EA.out.mono (S' := (· = sb)) (fun _ _ => False.elim)).trans (E3.out.mono (S' := (· = sb)) (fun _ _ => False.elim))))
      have hz3 : w2.heap.size + 1 ≤ w3.heap.size := by have := hb3.size; simpa using this
      clear hb3 E3 EA HN HB2
      obtain ⟨⟨q0, q1, q2, q3⟩, _⟩ := blk4 HN3.out
      generalize hge : errE op n s f 1 = er
      have GE := hid hge
      clear hge
      by_cases he : (er == 0) = true
      · have HE0 := hid (show errE op n s f 1 = 0 by rw [GE.out]; simpa using he)
        obtain ⟨⟨p0, p1, p2, p3⟩, f0, f1, f2, f3⟩ := blk4 HB3.out
        go_wp2_with fail
        obtain ⟨u0, u1, u2, u3⟩ := set4 (a0 := .int .i64 op) (a1 := .int .i64 n) (a2 := .string s) (a3 := .slice p f.len c) p0 p1 p2 p3
        have e4 : Ext (· = w.heap.size) w3 ((((w3.setCell ⟨w.heap.size, 0, none⟩ (.int .i64 op)).setCell ⟨w.heap.size, 1, none⟩ (.int .i64 n)).setCell ⟨w.heap.size, 2, none⟩ (.string s)).setCell ⟨w.heap.size, 3, none⟩ (.slice p f.len c)) :=
          set4_ext (S := (· = w.heap.size)) (Ext.refl w3) (.inl rfl)
        have e5 : Ext (· = sb) w ((((w3.setCell ⟨w.heap.size, 0, none⟩ (.int .i64 op)).setCell ⟨w.heap.size, 1, none⟩ (.int .i64 n)).setCell ⟨w.heap.size, 2, none⟩ (.string s)).setCell ⟨w.heap.size, 3, none⟩ (.slice p f.len c)) :=
          set4_ext HE3.out (.inr (Nat.le_refl _))
        generalize ((((w3.setCell ⟨w.heap.size, 0, none⟩ (.int .i64 op)).setCell ⟨w.heap.size, 1, none⟩ (.int .i64 n)).setCell ⟨w.heap.size, 2, none⟩ (.string s)).setCell ⟨w.heap.size, 3, none⟩ (.slice p f.len c)) = w4 at *
        refine bodyPost_ret (v := .agg #[.int .i64 op, .int .i64 n, .string s, .slice p f.len c]) (by simp [results, Tryz.results84, go_sem, u0, u1, u2, u3]) rfl ⟨⟨op, n, s, f, p, c, fa, rfl, HR3.out.ext e4 (fun b hb e => by have := HX.out.2.2.2.1 b hb; omega), HX.out.2.1, HX.out.2.2.1, fun b hb => by have := HX.out.2.2.2.1 b hb; omega, HX.out.2.2.2.2.1, HX.out.2.2.2.2.2, HE0.out⟩, e5, at2, HS3.out.ext e4 (by omega) (fun b hb => by omega), by omega⟩
      · have he' : (er == 0) = false := by simpa using he
        clear he
        go_wp2_with fail
        go_roundw
        case rel => exact ⟨k + 1, at2, by omega, by go_num, HS3.out, by omega, HE3.out, HB3.out⟩
        case measure => simp [intOf]; omega
    · go_wp2_with fail
      obtain ⟨u0, u1, u2, u3⟩ := set4 (a0 := .int .i64 2) (a1 := .int .i64 0) (a2 := .string ⟨#[120]⟩) (a3 := .slice none 0 0) q0 q1 q2 q3
      have e4 : Ext (· = w.heap.size) wr ((((wr.setCell ⟨w.heap.size, 0, none⟩ (.int .i64 2)).setCell ⟨w.heap.size, 1, none⟩ (.int .i64 0)).setCell ⟨w.heap.size, 2, none⟩ (.string ⟨#[120]⟩)).setCell ⟨w.heap.size, 3, none⟩ (.slice none 0 0)) :=
        set4_ext (S := (· = w.heap.size)) (Ext.refl wr) (.inl rfl)
      have e5 : Ext (· = sb) w ((((wr.setCell ⟨w.heap.size, 0, none⟩ (.int .i64 2)).setCell ⟨w.heap.size, 1, none⟩ (.int .i64 0)).setCell ⟨w.heap.size, 2, none⟩ (.string ⟨#[120]⟩)).setCell ⟨w.heap.size, 3, none⟩ (.slice none 0 0)) :=
        set4_ext HE.out (.inr (Nat.le_refl _))
      generalize ((((wr.setCell ⟨w.heap.size, 0, none⟩ (.int .i64 2)).setCell ⟨w.heap.size, 1, none⟩ (.int .i64 0)).setCell ⟨w.heap.size, 2, none⟩ (.string ⟨#[120]⟩)).setCell ⟨w.heap.size, 3, none⟩ (.slice none 0 0)) = w4 at *
      refine bodyPost_ret (v := .agg #[.int .i64 2, .int .i64 0, .string ⟨#[120]⟩, .slice none 0 0]) (by simp [results, Tryz.results84, go_sem, u0, u1, u2, u3]) rfl ⟨⟨2, 0, ⟨#[120]⟩, .nil, none, 0, [], rfl, .inl ⟨rfl, rfl⟩, by simp [F.len], by omega, by simp, ⟨by omega, by omega, by decide, trivial, trivial⟩, by simp [F.size], by decide⟩, e5, at', HSt.out.ext e4 (by omega) (fun b hb => by omega), by omega⟩
end
end Go.Proofs.YtckbhlnncokigaaGreat
/- append from whatever source (nil, empty or not), onto a row of the call's own or onto a slice without room; and at the walk's operation. -/
namespace Go.Proofs.YtckbhlnncokigaaGreat
open Go.RowKit

/-- The cells at an address that may be none. -/
def CellsP (w : World) (p : Option Addr) (xs : List Value) : Prop := xs = [] ∨ ∃ b o, p = some ⟨b, o, none⟩ ∧ ∀ (i : Nat) v, xs[i]? = some v → w.cell? ⟨b, o + i, none⟩ = some v
theorem CellsP.ext {S : Nat → Prop} {w w' : World} {p : Option Addr} {xs : List Value} (h : CellsP w p xs) (e : Ext S w w') (hb : ∀ x, p = some x → ¬ S x.block) : CellsP w' p xs := by
  rcases h with h | ⟨b, o, rfl, h⟩
  · exact .inl h
  · exact .inr ⟨b, o, rfl, fun i v hv => e.cell_some (p := ⟨b, o + i, none⟩) (h i v hv) (hb ⟨b, o, none⟩ rfl)⟩
theorem addr_add (b o i : Nat) : (⟨b, o, none⟩ : Addr).add i = ⟨b, o + i, none⟩ := by unfold Addr.add; split <;> simp_all
theorem CellsP.own {w : World} {base : Nat} {e : TypeId} {size : Nat} {q : Option Addr} {n c : Nat} {xs : List Value} (h : w.ownsRow base e size (.slice q n c) n xs) : CellsP w q xs := by
  rcases Nat.eq_zero_or_pos n with h0 | h0
  · left; have := h.1; subst h0; simpa using this
  · obtain ⟨g, cc, hv, _, _, _, hc, _⟩ := own_cells h h0
    injection hv with e1 _ _
    exact .inr ⟨g, 0, e1, fun i v hv => by rw [Nat.zero_add]; exact hc i v hv⟩

section
variable {P : Program}
theorem run_app_none (w : World) (t ty e : TypeId) (i : TypeInfo) (ht : P.underlying t = some (.slice e)) (hi : P.info? e = some i) (base : Option Addr) (n c : Nat) (hc : n ≤ c) (q : Option Addr) (d : Nat) :
    (Builtin.append_ #[t, t] ty #[.slice base n c, .slice q 0 d]).run P w = .ok (.slice base n c) w := by
  cases q <;> cases base <;> simp [Builtin.append_, run_underlying ht, sizeOf, typeInfo, hi, Builtin.lenOf, Builtin.firstCells, hc, storeCells, loadCells, loadCellsFrom]

theorem run_app_own (w : World) (t ty e : TypeId) (i : TypeInfo) (z : Value) (size bytes : Nat) (ht : P.underlying t = some (.slice e)) (hi : P.info? e = some i) (hz : i.zero = some z) (hsize : i.size = size) (hby : i.bytes = bytes) (hzs : z.cells.size = size) (hsz : 0 < size)
    (base : Nat) (v : Value) (n : Nat) (xs : List Value) (hown : w.ownsRow base e size v n xs) (q : Option Addr) (m d : Nat) (ys : List Value) (hl : ys.length = m * size) (hq : CellsP w q ys) (h1 : ∀ u ∈ ys, u.oneCell' = true)
    (h63 : n + m ≤ maxLen) (hbytes : (n + m) * bytes ≤ 140737488355328) (hbase : base ≤ w.heap.size) :
    ∃ q' c' w', (Builtin.append_ #[t, t] ty #[v, .slice q m d]).run P w = .ok (.slice q' (n + m) c') w' ∧ w'.ownsRow base e size (.slice q' (n + m) c') (n + m) (xs ++ ys) ∧ w.grownBy w' v.ownBlock ∧
      ((Value.slice q' (n + m) c').ownBlock = v.ownBlock ∨ (Value.slice q' (n + m) c').ownBlock = some w.heap.size) := by
  rcases Nat.eq_zero_or_pos m with h0 | h0
  · subst h0
    have hys : ys = [] := List.eq_nil_of_length_eq_zero (by simpa using hl)
    subst hys
    obtain ⟨q0, c0, rfl, hc0⟩ : ∃ q0 c0, v = .slice q0 n c0 ∧ n ≤ c0 := by
      rcases hown.2 with ⟨rfl, rfl⟩ | ⟨g, cap, cur, rfl, _, _, hnc, _⟩
      · exact ⟨_, _, rfl, Nat.le_refl _⟩
      · exact ⟨_, _, rfl, hnc⟩
    exact ⟨q0, c0, w, run_app_none w t ty e i ht hi q0 n c0 hc0 q d, by simpa using hown, ⟨rfl, rfl, rfl, Nat.le_refl _, fun _ _ _ => rfl⟩, .inl rfl⟩
  · rcases hq with rfl | ⟨b, o, rfl, hq⟩
    · have : 0 < m * size := Nat.mul_pos h0 hsz
      simp at hl; omega
    · obtain ⟨g, cap, w', hr, h2, h3, h4, _⟩ := run_append_lies (P := P) w t ty base e i z size bytes ht hi hz hsize hby hzs hsz v n xs hown ⟨b, o, none⟩ m d ys hl (fun j u hu => by rw [addr_add]; exact hq j u hu) h1 h0 h63 hbytes hbase _ rfl
      refine ⟨_, cap, w', hr, h2, h3, ?_⟩
      rcases h4 with h4 | h4
      · exact .inl h4.symm
      · exact .inr (by rw [h4]; rfl)

/-- Onto a slice without room: what is appended to lies in new memory, or nothing is appended. -/
theorem run_app_full (w : World) (t ty e : TypeId) (i : TypeInfo) (z : Value) (size bytes : Nat) (ht : P.underlying t = some (.slice e)) (hi : P.info? e = some i) (hz : i.zero = some z) (hsize : i.size = size) (hby : i.bytes = bytes) (hzs : z.cells.size = size) (hsz : 0 < size)
    (p : Option Addr) (n : Nat) (xs : List Value) (hx : xs.length = n * size) (hp : CellsP w p xs) (q : Option Addr) (m d : Nat) (ys : List Value) (hl : ys.length = m * size) (hq : CellsP w q ys) (h1 : ∀ u ∈ ys, u.oneCell' = true)
    (h63 : n + m ≤ maxLen) (hbytes : (n + m) * bytes ≤ 140737488355328) :
    ∃ q' c' w', (Builtin.append_ #[t, t] ty #[.slice p n n, .slice q m d]).run P w = .ok (.slice q' (n + m) c') w' ∧ CellsP w' q' (xs ++ ys) ∧ w.grownBy w' none ∧ n + m ≤ c' ∧ c' ≤ maxLen ∧
      ((0 < m ∧ w'.ownsRow w.heap.size e size (.slice q' (n + m) c') (n + m) (xs ++ ys)) ∨ (m = 0 ∧ q' = p ∧ c' = n ∧ w' = w)) := by
  rcases Nat.eq_zero_or_pos m with h0 | h0
  · subst h0
    have hys : ys = [] := List.eq_nil_of_length_eq_zero (by simpa using hl)
    subst hys
    exact ⟨p, n, w, run_app_none w t ty e i ht hi p n n (Nat.le_refl _) q d, by simpa using hp, ⟨rfl, rfl, rfl, Nat.le_refl _, fun _ _ _ => rfl⟩, by omega, by omega, .inr ⟨rfl, rfl, rfl, rfl⟩⟩
  · rcases hq with rfl | ⟨b, o, rfl, hq⟩
    · have : 0 < m * size := Nat.mul_pos h0 hsz
      simp at hl; omega
    · have hq' : ∀ j u, ys[j]? = some u → w.cell? ((⟨b, o, none⟩ : Addr).add j) = some u := fun j u hu => by rw [addr_add]; exact hq j u hu
      suffices H : ∃ v' w', (Builtin.append_ #[t, t] ty #[.slice p n n, .slice (some ⟨b, o, none⟩) m d]).run P w = .ok v' w' ∧ w'.ownsRow w.heap.size e size v' (n + m) (xs ++ ys) ∧ w.grownBy w' none by
        obtain ⟨v', w', hr, h2, h3⟩ := H
        obtain ⟨g, cap, rfl, hg, hnc, hcm, hcell, _⟩ := own_cells h2 (by omega)
        exact ⟨_, cap, w', hr, .inr ⟨g, 0, rfl, fun i v hv => by rw [Nat.zero_add]; exact hcell i v hv⟩, h3, hnc, hcm, .inl ⟨h0, h2⟩⟩
      rcases hp with rfl | ⟨bp, op, rfl, hp⟩
      · have hn : n = 0 := by
          rcases Nat.eq_zero_or_pos n with h | h
          · exact h
          · have : 0 < n * size := Nat.mul_pos h hsz
            simp at hx; omega
        subst hn
        cases p with
        | none =>
          obtain ⟨v', w', hr, h2, h3, _⟩ := run_append_own_at (P := P) w w.heap.size t ty e i z size bytes ht hi hz hsize hby hzs hsz (.slice none 0 0) 0 [] (World.ownsRow_nil _ _ _ _) ⟨b, o, none⟩ m d ys hl hq' h1 h63 hbytes (Nat.le_refl _)
          exact ⟨v', w', hr, h2, h3⟩
        | some pa =>
          obtain ⟨v', w', hr, h2, h3⟩ := run_append_arg_grows (P := P) w t ty e i z size bytes ht hi hz hsize hby hzs hsz pa 0 0 [] (by simp) (by simp) ⟨b, o, none⟩ m d ys hl hq' (by omega) h63 hbytes
          exact ⟨v', w', hr, h2, h3⟩
      · obtain ⟨v', w', hr, h2, h3⟩ := run_append_arg_grows (P := P) w t ty e i z size bytes ht hi hz hsize hby hzs hsz ⟨bp, op, none⟩ n n xs hx (fun j u hu => by rw [addr_add]; exact hp j u hu) ⟨b, o, none⟩ m d ys hl hq' (by omega) h63 hbytes
        exact ⟨v', w', hr, h2, h3⟩

theorem wp_app (w : World) {o : Oper} {a : Act} {K : Act → World → Prop} {Q : Exit → Act → World → Prop} (s x : Operand) (t : TypeId) (ho : o.op = .call { callee := .builtin .append, args := #[s, x], argTypes := #[t, t] })
    (v y v' : Value) (w' : World) (hs : a.eval s = v) (hx : a.eval x = y) (hr : (Builtin.append_ #[t, t] o.type #[v, y]).run P w = .ok v' w') (h : K (a.put o.dst v') w') : o.wp P a w K Q := by
  unfold Oper.wp execOp
  simp only [ho, resolve, invoke, builtin, Sem.run_bind, Sem.run_pure, Result.andThen_ok, List.map_toArray, List.map_cons, List.map_nil, hs, hx, hr]
  exact h
/-- An append whose run is known, in the list of a region's operations. -/
theorem wpList_app (w : World) {ops : Array Oper} {rest : List Oper} {o : Oper} {a : Act} {Q : Exit → Act → World → Prop} (hgd : o.guard = none) (s x : Operand) (t : TypeId) (ho : o.op = .call { callee := .builtin .append, args := #[s, x], argTypes := #[t, t] })
    (v y v' : Value) (w' : World) (hs : a.eval s = v) (hx : a.eval x = y) (hr : (Builtin.append_ #[t, t] o.type #[v, y]).run P w = .ok v' w') (h : wpList P ops Q rest (a.put o.dst v') w') : wpList P ops Q (o :: rest) a w :=
  wpList_plain hgd fun _ hK => wp_app w s x t ho v y v' w' hs hx hr (hK _ _ h)
/-- The same at a step of a region that draws its order. -/
theorem step_app (w : World) {ops : Array Oper} {o : Oper} {a : Act} {K : Act → World → Prop} {Q : Exit → Act → World → Prop} {E : Prop} (hgd : o.guard = none) (s x : Operand) (t : TypeId) (ho : o.op = .call { callee := .builtin .append, args := #[s, x], argTypes := #[t, t] })
    (v y v' : Value) (w' : World) (hs : a.eval s = v) (hx : a.eval x = y) (hr : (Builtin.append_ #[t, t] o.type #[v, y]).run P w = .ok v' w') (h : K (a.put o.dst v') w') :
    if Region.wanted o (yielded ops a.tmps) = true then Oper.wp P o a w K Q else E := by
  have hw : Region.wanted o (yielded ops a.tmps) = true := by simp [Region.wanted, hgd]
  rw [if_pos hw]
  exact wp_app w s x t ho v y v' w' hs hx hr h
end
end Go.Proofs.YtckbhlnncokigaaGreat
