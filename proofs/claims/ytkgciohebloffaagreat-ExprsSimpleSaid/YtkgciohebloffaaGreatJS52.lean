/- Texts joined: LawS. -/
import Derived.Test.YtkgciohebloffaaGreatJS12
import Derived.Test.YtkgciohebloffaaGreatJS42
import Derived.Test.YtkgciohebloffaaGreatJS44
import Derived.Test.YtkgciohebloffaaGreatJS48
import Derived.Test.YtkgciohebloffaaGreatJS49
import Derived.Test.YtkgciohebloffaaGreatJS50
import Derived.Test.YtkgciohebloffaaGreatJS11
import Derived.Test.YtkgciohebloffaaGreatJS51
import Derived.Deep.RegionHeld3
/- The law ExprsSimple, out of the contracts of what it calls. -/
namespace Go.Proofs.YtkgciohebloffaaGreat
open Go.RowKit

/-- An expression in its box. -/
def ExAt (b : Nat) (op n : Int) (s : ByteArray) (a : F) (p : Option Addr) (c : Nat) (f : List Nat) (u : World) : Prop :=
  u.heap[b]? = some (.cells #[.int .i64 op, .int .i64 n, .string s, .slice p a.len c] 28 (0, 0)) ∧ RdP u a p f
theorem ExAt.ext {b : Nat} {op n : Int} {s : ByteArray} {a : F} {p : Option Addr} {c : Nat} {f : List Nat} {u u' : World} (h : ExAt b op n s a p c f u) (e : Ext (fun _ => False) u u') : ExAt b op n s a p c f u' := ⟨e.heap h.1 id, h.2.ext e (fun _ _ => id)⟩
theorem ExAt.ext_s {S : Nat → Prop} {b : Nat} {op n : Int} {s : ByteArray} {a : F} {p : Option Addr} {c : Nat} {f : List Nat} {u u' : World} (h : ExAt b op n s a p c f u) (e : Ext S u u') (hb : ¬ S b) (hf : ∀ x ∈ f, ¬ S x) : ExAt b op n s a p c f u' := ⟨e.heap h.1 hb, h.2.ext e hf⟩
/-- What lies in the blocks that there were stays, whatever becomes of new ones. -/
theorem ExAt.far {b : Nat} {op n : Int} {s : ByteArray} {a : F} {p : Option Addr} {c : Nat} {f : List Nat} {u u' : World} (h : ExAt b op n s a p c f u) (e : Ext (fun b => u.heap.size ≤ b) u u') : ExAt b op n s a p c f u' := by
  have hb : b < u.heap.size := by
    obtain ⟨⟨x0, _⟩, _⟩ := blk4 h.1
    exact World.block_lt_of_cell? _ _ x0
  exact ⟨e.heap h.1 (by omega), h.2.ext e (fun y hy e' => by have := h.2.lt y hy; omega)⟩
/-- An expression as it is drawn. -/
def Drawn (op n : Int) (s : ByteArray) (a : F) (c : Nat) : Prop := a.len ≤ c ∧ c ≤ 9223372036854775807 ∧ (F.cons op n s a .nil).Fits ∧ a.size ≤ 149
theorem same_true (op n : Int) (s : ByteArray) (a : F) (l : Nat) (hl : a.len = l) (p : Option Addr) (c : Nat) (fa : List Nat) (p' : Option Addr) (c' : Nat) (fa' : List Nat) (w : World) (h1 : RdP w a p fa) (h2 : RdP w a p' fa') (h3 : a.len ≤ c) (h4 : c ≤ 9223372036854775807) (h5 : a.len ≤ c') (h6 : c' ≤ 9223372036854775807) :
    Calls Tryz.prog 31 #[.agg #[.int .i64 op, .int .i64 n, .string s, .slice p l c], .agg #[.int .i64 op, .int .i64 n, .string s, .slice p' l c']] w fun e w' => e = .returned (.bool true) ∧ Below w.heap.size w w' := by
  subst hl
  have h := q_SameExpr (a.size + 1) op n s a p c fa op n s a p' c' fa' w (by omega) h1 h2 h3 h4 h5 h6
  rw [show sameE op n s a op n s a = true by simp [sameE, F.eqb_refl]] at h
  exact h

set_option maxRecDepth 100000 in
set_option maxHeartbeats 8000000 in
theorem simple_all (a0 : Option Addr) (len cap : Nat) (zs : List Int) (w : World) (hr : IsRow w a0 len cap zs) :
    Calls Tryz.prog 4 #[.slice a0 len cap] w fun e w' => e = .returned (.bool true) ∧ Below w.heap.size w w' := by
  have HR := hid hr
  clear hr
  go_enter Tryz.func4, Tryz.ntmps4
  go_wp2_with fail
  have HS := hid (str_start (T := 25) HR.out)
  have HB1 := hid (alloc_below w (.cells #[.slice a0 len cap, .int .i64 0] 25))
  have hz1 : w.heap.size + 1 = (w.alloc (.cells #[.slice a0 len cap, .int .i64 0] 25)).heap.size := by simp
  generalize w.alloc (.cells #[.slice a0 len cap, .int .i64 0] 25) = w1 at *
  refine (anexpr_any _ HS.out (by omega)).mono ?_
  rintro e w2 ⟨⟨op, n, s, f, p, c, fa, rfl, h1, h2, h3, h4, h5, h6⟩, hw2⟩
  obtain ⟨at2, hs2, hle2⟩ := hw2.2
  have HX := hid (show Drawn op n s f c from ⟨h2, h3, h5, by omega⟩)
  have HXf := hid (show ∀ b ∈ fa, w.heap.size + 1 ≤ b from fun b hb => by have := h4 b hb; omega)
  have HX2 := hid h1
  have HS2 := hid hs2
  have HB2 := hid (below_went HB1.out hw2.1 (Nat.le_refl _) (by omega))
  have hz2 : w.heap.size + 1 ≤ w2.heap.size := by have := hw2.1.size; omega
  clear h1 h2 h3 h4 h5 h6 hs2 hw2
  go_wp2_with fail
  refine (anexpr_any _ HS2.out (by omega)).mono ?_
  rintro e w3 ⟨⟨bo, bn, bs, g, q, d, ga, rfl, h1, h2, h3, h4, h5, h6⟩, hw3⟩
  obtain ⟨at3, hs3, hle3⟩ := hw3.2
  have HY := hid (show Drawn bo bn bs g d from ⟨h2, h3, h5, by omega⟩)
  have HYf := hid (show ∀ b ∈ ga, w.heap.size + 1 ≤ b from fun b hb => by have := h4 b hb; omega)
  have HX3 := hid (HX2.out.ext hw3.1 (fun b hb e => by have := HXf.out b hb; omega))
  have HY3 := hid h1
  have HS3 := hid hs3
  have HB3 := hid (below_went HB2.out hw3.1 (Nat.le_refl _) (by omega))
  have hz3 : w.heap.size + 1 ≤ w3.heap.size := Nat.le_trans hz2 hw3.1.size
  clear h1 h2 h3 h4 h5 h6 hs3 hw3
  go_wp2_with fail
  refine (some_at 6 [⟨#[120]⟩, ⟨#[120]⟩, ⟨#[121]⟩, ⟨#[122]⟩, ⟨#[65]⟩, ⟨#[]⟩] _ w3.heap.size _ rfl HS3.out (by omega) rfl (by omega) (by omega)).mono ?_
  rintro e w4 ⟨⟨nm, hnm, rfl⟩, hw4⟩
  obtain ⟨at4, hs4, hle4⟩ := hw4.2
  have HNm := hid (show nm.size ≤ 9223372036854775807 by
    simp only [List.mem_cons, List.not_mem_nil, or_false] at hnm
    rcases hnm with rfl | rfl | rfl | rfl | rfl | rfl <;> decide)
  have HX4 := hid (HX3.out.ext hw4.1 (fun b hb e => by have := HXf.out b hb; omega))
  have HY4 := hid (HY3.out.ext hw4.1 (fun b hb e => by have := HYf.out b hb; omega))
  have HS4 := hid hs4
  have HB4 := hid (below_went HB3.out hw4.1 (Nat.le_refl _) (by omega))
  have hz4 : w.heap.size + 1 ≤ w4.heap.size := Nat.le_trans hz3 hw4.1.size
  have HXlt := hid (show ∀ y ∈ fa, y < w4.heap.size from HX4.out.lt)
  clear hnm hs4 hw4 HX2 HX3 HY3 HB1 HB2 HB3 HS HS2 HS3
  go_wp2_with fail
  have k1 := heap_new w4 (.cells #[.int .i64 op, .int .i64 n, .string s, .slice p f.len c] 28)
  have k2 := heap_new (w4.alloc (.cells #[.int .i64 op, .int .i64 n, .string s, .slice p f.len c] 28)) (.cells #[.int .i64 bo, .int .i64 bn, .string bs, .slice q g.len d] 28)
  rw [show (w4.alloc (.cells #[.int .i64 op, .int .i64 n, .string s, .slice p f.len c] 28)).heap.size = w4.heap.size + 1 by simp] at k2
  have EZ := ((Ext.refl (S := fun _ => False) w4).alloc (.cells #[.int .i64 op, .int .i64 n, .string s, .slice p f.len c] 28)).alloc (.cells #[.int .i64 bo, .int .i64 bn, .string bs, .slice q g.len d] 28)
  have HXa := hid (show ExAt w4.heap.size op n s f p c fa ((w4.alloc (.cells #[.int .i64 op, .int .i64 n, .string s, .slice p f.len c] 28)).alloc (.cells #[.int .i64 bo, .int .i64 bn, .string bs, .slice q g.len d] 28)) from ⟨((Ext.refl (S := fun _ => False) _).alloc _).heap k1 id, HX4.out.ext EZ (fun _ _ => id)⟩)
  have HYa := hid (show ExAt (w4.heap.size + 1) bo bn bs g q d ga ((w4.alloc (.cells #[.int .i64 op, .int .i64 n, .string s, .slice p f.len c] 28)).alloc (.cells #[.int .i64 bo, .int .i64 bn, .string bs, .slice q g.len d] 28)) from ⟨k2, HY4.out.ext EZ (fun _ _ => id)⟩)
  have HS5 := hid ((HS4.out.alloc (.cells #[.int .i64 op, .int .i64 n, .string s, .slice p f.len c] 28)).alloc (.cells #[.int .i64 bo, .int .i64 bn, .string bs, .slice q g.len d] 28))
  have HB5 := hid (below_ext HB4.out EZ (by omega))
  have hz5 : w4.heap.size + 2 ≤ ((w4.alloc (.cells #[.int .i64 op, .int .i64 n, .string s, .slice p f.len c] 28)).alloc (.cells #[.int .i64 bo, .int .i64 bn, .string bs, .slice q g.len d] 28)).heap.size := by simp
  clear k1 k2 EZ
  generalize ((w4.alloc (.cells #[.int .i64 op, .int .i64 n, .string s, .slice p f.len c] 28)).alloc (.cells #[.int .i64 bo, .int .i64 bn, .string bs, .slice q g.len d] 28)) = w5 at *
  generalize w4.heap.size = bx at *
  refine (flip_any 3 _ HS5.out (by omega) (by omega) (by omega)).mono ?_
  rintro e w6 ⟨⟨fl, rfl⟩, hw6⟩
  have hne : ∀ y, w.heap.size + 1 ≤ y → ¬ (y = w.heap.size) := fun y h e => by omega
  have HX6 := hid (HXa.out.ext_s hw6.1 (by omega) (fun y hy e => by have := HXf.out y hy; omega))
  have HY6 := hid (HYa.out.ext_s hw6.1 (by omega) (fun y hy e => by have := HYf.out y hy; omega))
  have HB6 := hid (below_went HB5.out hw6.1 (Nat.le_refl _) (by omega))
  have hz6 : bx + 2 ≤ w6.heap.size := by have := hw6.1.size; omega
  clear hw6 HXa HYa HS5 HS4 HB5 HX4 HY4 hne
  obtain ⟨⟨x0, x1, x2, x3⟩, _⟩ := blk4 HX6.out.1
  obtain ⟨⟨y0, y1, y2, y3⟩, i0, i1, i2, i3⟩ := blk4 HY6.out.1
  cases fl
  case' false =>
    go_wp2_with fail
    obtain ⟨w7, hw7, HL⟩ : ∃ w7, w6 = w7 ∧ Hid (ExAt bx op n s f p c fa w7 ∧ (∃ yo yn ys yf yp yc fy, ExAt (bx + 1) yo yn ys yf yp yc fy w7 ∧ Drawn yo yn ys yf yc) ∧ Below w.heap.size w w7 ∧ bx + 2 ≤ w7.heap.size) := ⟨_, rfl, hid ⟨HX6.out, ⟨_, _, _, _, _, _, _, HY6.out, HY.out⟩, HB6.out, hz6⟩⟩
    rw [hw7]
    clear hw7
  case' true =>
    go_wp2_with fail
    have e4 : Ext (· = bx + 1) w6 ((((w6.setCell ⟨bx + 1, 0, none⟩ (.int .i64 op)).setCell ⟨bx + 1, 1, none⟩ (.int .i64 n)).setCell ⟨bx + 1, 2, none⟩ (.string s)).setCell ⟨bx + 1, 3, none⟩ (.slice p f.len c)) := set4_ext (S := (· = bx + 1)) (Ext.refl w6) (.inl rfl)
    obtain ⟨w7, hw7, HL⟩ : ∃ w7, ((((w6.setCell ⟨bx + 1, 0, none⟩ (.int .i64 op)).setCell ⟨bx + 1, 1, none⟩ (.int .i64 n)).setCell ⟨bx + 1, 2, none⟩ (.string s)).setCell ⟨bx + 1, 3, none⟩ (.slice p f.len c)) = w7 ∧ Hid (ExAt bx op n s f p c fa w7 ∧ (∃ yo yn ys yf yp yc fy, ExAt (bx + 1) yo yn ys yf yp yc fy w7 ∧ Drawn yo yn ys yf yc) ∧ Below w.heap.size w w7 ∧ bx + 2 ≤ w7.heap.size) :=
      ⟨_, rfl, hid ⟨HX6.out.ext_s e4 (by omega) (fun y hy e => by have := HXlt.out y hy; omega), ⟨op, n, s, f, p, c, fa, ⟨set4_heap HY6.out.1, HX6.out.2.ext e4 (fun y hy e => by have := HXlt.out y hy; omega)⟩, HX.out⟩, below_at HB6.out e4 (by omega) (by omega), by have := e4.size; omega⟩⟩
    rw [hw7]
    clear e4 hw7
  all_goals
    clear x0 x1 x2 x3 y0 y1 y2 y3 i0 i1 i2 i3 HX6 HY6 HB6 hz6 HY HYf hz5
    obtain ⟨hX7, ⟨yo, yn, ys, yf, yp, yc, fy, hY7, hYd⟩, hB7, hz7⟩ := HL.out
    have HX7 := hid hX7
    have HY7 := hid hY7
    have HYd := hid hYd
    have HB7 := hid hB7
    clear hX7 hY7 hYd hB7 HL
    have HKp := hid (show ∀ w', Ext (fun _ => False) w7 w' → w'.cell? ⟨bx, 0, none⟩ = some (.int .i64 op) ∧ w'.cell? ⟨bx, 1, none⟩ = some (.int .i64 n) ∧ w'.cell? ⟨bx, 2, none⟩ = some (.string s) ∧ w'.cell? ⟨bx, 3, none⟩ = some (.slice p f.len c) ∧ w'.cell? ⟨bx + 1, 0, none⟩ = some (.int .i64 yo) ∧ w'.cell? ⟨bx + 1, 1, none⟩ = some (.int .i64 yn) ∧ w'.cell? ⟨bx + 1, 2, none⟩ = some (.string ys) ∧ w'.cell? ⟨bx + 1, 3, none⟩ = some (.slice yp yf.len yc) from fun w' e => by
      obtain ⟨⟨x0, x1, x2, x3⟩, _⟩ := blk4 (HX7.out.ext e).1
      obtain ⟨⟨y0, y1, y2, y3⟩, _⟩ := blk4 (HY7.out.ext e).1
      exact ⟨x0, x1, x2, x3, y0, y1, y2, y3⟩)
    have HF1 := hid (fun u (e : Ext (fun _ => False) w7 u) => q_ExprFault op n s f p c fa u (HX7.out.ext e).2 HX.out.1 HX.out.2.1 HX.out.2.2.1)
    have HF2 := hid (fun u (e : Ext (fun _ => False) w7 u) => q_ExprFault yo yn ys yf yp yc fy u (HY7.out.ext e).2 HYd.out.1 HYd.out.2.1 HYd.out.2.2.1)
    have Ed := hid ((Ext.refl (S := fun _ => False) w7).drew)
    obtain ⟨x0, x1, x2, x3, y0, y1, y2, y3⟩ := HKp.out _ (Ext.refl w7)
    go_wp2_with fail
    go_region_held3 (fun w' => w'.cell? ⟨bx, 0, none⟩ = some (.int .i64 op) ∧ w'.cell? ⟨bx, 1, none⟩ = some (.int .i64 n) ∧ w'.cell? ⟨bx, 2, none⟩ = some (.string s) ∧ w'.cell? ⟨bx, 3, none⟩ = some (.slice p f.len c) ∧ w'.cell? ⟨bx + 1, 0, none⟩ = some (.int .i64 yo) ∧ w'.cell? ⟨bx + 1, 1, none⟩ = some (.int .i64 yn) ∧ w'.cell? ⟨bx + 1, 2, none⟩ = some (.string ys) ∧ w'.cell? ⟨bx + 1, 3, none⟩ = some (.slice yp yf.len yc))
      (first
        | (with_reducible exact HKp.out _ E9.out)
        | (with_reducible exact HKp.out _ E8.out)
        | (with_reducible exact HKp.out _ Ed.out)
        | (go_keep; done))
      (first
        | (go_at_call 9; (with_reducible refine (HF1.out _ Ed.out).mono ?_); rintro e w8 ⟨rfl, hb8⟩; have E8 := hid (Ed.out.trans (Ext.of_below (S := fun _ => False) hb8)); clear hb8)
        | (go_at_call 9; (with_reducible refine (HF2.out _ E8.out).mono ?_); rintro e w9 ⟨rfl, hb9⟩; have E9 := hid (E8.out.trans (Ext.of_below (S := fun _ => False) hb9)); clear hb9))
    have HX9 := hid (HX7.out.ext E9.out)
    have HY9 := hid (HY7.out.ext E9.out)
    have HB9 := hid (below_ext HB7.out E9.out HB7.out.size)
    clear x0 x1 x2 x3 y0 y1 y2 y3
    clear E8 Ed HKp HF1 HF2 HX7 HY7 HB7 E9
    generalize hge : errE op n s f 1 = er
    have GE := hid hge
    generalize hgs : errE yo yn ys yf 1 = es
    have GS := hid hgs
    clear hge hgs
    obtain ⟨⟨x0, x1, x2, x3⟩, _⟩ := blk4 HX9.out.1
    go_wp2_with fail
    refine (v_Simple op n s f p c fa _ (by have := HX.out.2.2.2; omega) HX9.out.2 HX.out.1 HX.out.2.1 HX.out.2.2.1).mono ?_
    rintro e w10 ⟨⟨so, sn, ss, sa, sp, sc, fs, rfl, m1, m2, m3, m4, _⟩, hb⟩
    have E10 := Ext.of_below (S := fun _ => False) hb
    have HSi := hid (And.intro m1 (And.intro m3 m4))
    generalize hse : (simAns op n s f).2 = sE
    have GSi := hid hse
    have EA := E10.trans ((Ext.refl (S := fun _ => False) w10).alloc (.cells #[.int .i64 so, .int .i64 sn, .string ss, .slice sp sa.len sc] 28))
    have HX11 := hid (HX9.out.ext EA)
    have HY11 := hid (HY9.out.ext EA)
    have HB11 := hid (below_ext HB9.out EA HB9.out.size)
    have HS11 := hid (show ExAt w10.heap.size so sn ss sa sp sc fs _ from ⟨heap_new w10 (.cells #[.int .i64 so, .int .i64 sn, .string ss, .slice sp sa.len sc] 28), m2.ext ((Ext.refl (S := fun _ => False) w10).alloc _) (fun _ _ => id)⟩)
    clear m1 m2 m3 m4 hb hse E10 EA HX9 HY9 HB9 x0 x1 x2 x3
    obtain ⟨⟨x0, x1, x2, x3⟩, _⟩ := blk4 HX11.out.1
    obtain ⟨⟨y0, y1, y2, y3⟩, _⟩ := blk4 HY11.out.1
    go_wp2_with fail
    generalize w10.alloc (.cells #[.int .i64 so, .int .i64 sn, .string ss, .slice sp sa.len sc] 28) = w11 at *
    generalize w10.heap.size = b9 at *
    refine (v_Put nm HNm.out op n s f p c fa yo yn ys yf yp yc fy _ (by have := HX.out.2.2.2; omega) (by have := HYd.out.2.2.2; omega) HX11.out.2 HX.out.1 HX.out.2.1 HX.out.2.2.1 HY11.out.2 HYd.out.1 HYd.out.2.1 HYd.out.2.2.1).mono ?_
    rintro e w12 ⟨⟨po, pn, ps, pa, pp, pc, fp, rfl, m1, m2, m3, m4, _⟩, hb⟩
    have E12 := Ext.of_below (S := fun _ => False) hb
    have HPu := hid (And.intro m1 (And.intro m3 m4))
    generalize hpe : (putAns nm yo yn ys yf op n s f).2 = pE
    have GPu := hid hpe
    have EA := E12.trans ((Ext.refl (S := fun _ => False) w12).alloc (.cells #[.int .i64 po, .int .i64 pn, .string ps, .slice pp pa.len pc] 28))
    have HX13 := hid (HX11.out.ext EA)
    have HY13 := hid (HY11.out.ext EA)
    have HS13 := hid (HS11.out.ext EA)
    have HB13 := hid (below_ext HB11.out EA HB11.out.size)
    have HP13 := hid (show ExAt w12.heap.size po pn ps pa pp pc fp _ from ⟨heap_new w12 (.cells #[.int .i64 po, .int .i64 pn, .string ps, .slice pp pa.len pc] 28), m2.ext ((Ext.refl (S := fun _ => False) w12).alloc _) (fun _ _ => id)⟩)
    clear m1 m2 m3 m4 hb hpe E12 EA HX11 HY11 HB11 HS11 x0 x1 x2 x3 y0 y1 y2 y3
    obtain ⟨⟨x0, x1, x2, x3⟩, _⟩ := blk4 HX13.out.1
    obtain ⟨⟨y0, y1, y2, y3⟩, _⟩ := blk4 HY13.out.1
    go_wp2_with fail
    generalize w12.alloc (.cells #[.int .i64 po, .int .i64 pn, .string ps, .slice pp pa.len pc] 28) = w13 at *
    generalize w12.heap.size = b11 at *
    refine (v_Differ op n s f p c fa yo yn ys yf yp yc fy _ (by have := HX.out.2.2.2; omega) (by have := HYd.out.2.2.2; omega) HX13.out.2 HX.out.1 HX.out.2.1 HX.out.2.2.1 HY13.out.2 HYd.out.1 HYd.out.2.1 HYd.out.2.2.1).mono ?_
    rintro e w14 ⟨rfl, hb⟩
    have E14 := Ext.of_below (S := fun _ => False) hb
    generalize hd1 : (difAns op n s f yo yn ys yf).1 = d1
    generalize hd2 : (difAns op n s f yo yn ys yf).2.1 = d2
    generalize hd3 : (difAns op n s f yo yn ys yf).2.2 = d3
    have GD := hid (And.intro hd1 (And.intro hd2 hd3))
    have HX14 := hid (HX13.out.ext E14)
    have HY14 := hid (HY13.out.ext E14)
    have HS14 := hid (HS13.out.ext E14)
    have HP14 := hid (HP13.out.ext E14)
    have HB14 := hid (below_ext HB13.out E14 HB13.out.size)
    clear hb hd1 hd2 hd3 E14 HX13 HY13 HS13 HP13 HB13 x0 x1 x2 x3 y0 y1 y2 y3
    go_wp2_with fail
    refine (or_new [er, es] 2 _ _ (by omega) rfl).mono ?_
    rintro e w15 ⟨rfl, hb⟩
    have E15 := Ext.of_below (S := fun _ => False) hb
    have HX15 := hid (HX14.out.ext E15)
    have HY15 := hid (HY14.out.ext E15)
    have HS15 := hid (HS14.out.ext E15)
    have HP15 := hid (HP14.out.ext E15)
    have HB15 := hid (below_ext HB14.out E15 HB14.out.size)
    clear hb E15 HX14 HY14 HS14 HP14 HB14
    generalize hgo : orL [er, es] = two
    have GO := hid hgo
    clear hgo
    go_wp2_with fail
    refine (r_NameFault nm _ HNm.out).mono ?_
    rintro e w16 ⟨rfl, hb⟩
    have E16 := Ext.of_below (S := fun _ => False) hb
    have HX16 := hid (HX15.out.ext E16)
    have HY16 := hid (HY15.out.ext E16)
    have HS16 := hid (HS15.out.ext E16)
    have HP16 := hid (HP15.out.ext E16)
    have HB16 := hid (below_ext HB15.out E16 HB15.out.size)
    clear hb E16 HX15 HY15 HS15 HP15 HB15
    generalize hgn : (if nameB nm.data.toList = true then (0 : Int) else 5) = nf
    have GN := hid hgn
    clear hgn
    go_wp2_with fail
    refine (or_new [two, nf] 2 _ _ (by omega) rfl).mono ?_
    rintro e w17 ⟨rfl, hb⟩
    have E17 := Ext.of_below (S := fun _ => False) hb
    have HX17 := hid (HX16.out.ext E17)
    have HY17 := hid (HY16.out.ext E17)
    have HS17 := hid (HS16.out.ext E17)
    have HP17 := hid (HP16.out.ext E17)
    have HB17 := hid (below_ext HB16.out E17 HB16.out.size)
    clear hb E17 HX16 HY16 HS16 HP16 HB16
    generalize hgt : orL [two, nf] = three
    have GT := hid hgt
    clear hgt
    have E18 := hid (((Ext.refl (S := fun b => w17.heap.size ≤ b) w17).alloc (.cells #[.int .i64 0, .int .i64 0, .string ⟨#[]⟩, .slice none 0 0] 28)).alloc (.cells #[.int .i64 0, .int .i64 0, .string ⟨#[]⟩, .slice none 0 0] 28))
    have k1 := heap_new w17 (.cells #[.int .i64 0, .int .i64 0, .string ⟨#[]⟩, .slice none 0 0] 28)
    have k2 := heap_new (w17.alloc (.cells #[.int .i64 0, .int .i64 0, .string ⟨#[]⟩, .slice none 0 0] 28)) (.cells #[.int .i64 0, .int .i64 0, .string ⟨#[]⟩, .slice none 0 0] 28)
    rw [show (w17.alloc (.cells #[.int .i64 0, .int .i64 0, .string ⟨#[]⟩, .slice none 0 0] 28)).heap.size = w17.heap.size + 1 by simp] at k2
    have HZ1 := hid (((Ext.refl (S := fun _ => False) (w17.alloc (.cells #[.int .i64 0, .int .i64 0, .string ⟨#[]⟩, .slice none 0 0] 28))).alloc (.cells #[.int .i64 0, .int .i64 0, .string ⟨#[]⟩, .slice none 0 0] 28)).heap k1 id)
    have HZ2 := hid k2
    have HX18 := hid (HX17.out.far E18.out)
    have HY18 := hid (HY17.out.far E18.out)
    have hz18 : w17.heap.size + 2 = ((w17.alloc (.cells #[.int .i64 0, .int .i64 0, .string ⟨#[]⟩, .slice none 0 0] 28)).alloc (.cells #[.int .i64 0, .int .i64 0, .string ⟨#[]⟩, .slice none 0 0] 28)).heap.size := by simp
    clear k1 k2
    obtain ⟨⟨x0, x1, x2, x3⟩, _⟩ := blk4 HX18.out.1
    obtain ⟨⟨y0, y1, y2, y3⟩, _⟩ := blk4 HY18.out.1
    by_cases he : er = 0
    case neg =>
      have hne : (er == 0) = false := by simpa using he
      obtain rfl : er = two := by rw [← GO.out]; simp [orL, he]
      obtain rfl : er = three := by rw [← GT.out]; simp [orL, he]
      have hbo : bothE er es = er := by unfold bothE; rw [if_pos he]
      have hsi : simAns op n s f = (nilE, er) := by unfold simAns; rw [if_pos (by rw [GE.out]; exact he), GE.out]
      have hpu : putAns nm yo yn ys yf op n s f = (nilE, er) := by unfold putAns; rw [GE.out, GS.out, hbo, if_pos he]
      have hdi : difAns op n s f yo yn ys yf = (0, false, er) := by unfold difAns; rw [GE.out, GS.out, hbo, if_pos he]
      obtain rfl : er = sE := by rw [← GSi.out, hsi]
      obtain rfl : er = pE := by rw [← GPu.out, hpu]
      obtain ⟨g1, g2, g3⟩ := GD.out
      rw [hdi] at g1 g2 g3
      dsimp only at g1 g2 g3
      subst g1 g2 g3
      have hs0 : nilE = F.cons so sn ss sa .nil := by rw [← HSi.out.1, hsi]
      have hp0 : nilE = F.cons po pn ps pa .nil := by rw [← HPu.out.1, hpu]
      obtain ⟨rfl, rfl, rfl, rfl, _⟩ := F.cons.inj hs0
      obtain ⟨rfl, rfl, rfl, rfl, _⟩ := F.cons.inj hp0
      clear hbo hsi hpu hdi hs0 hp0 he x0 x1 x2 x3 y0 y1 y2 y3
      have HW1 := hid (show F.nil.len ≤ 0 ∧ (0 : Nat) ≤ 9223372036854775807 from ⟨by simp [F.len], by omega⟩)
      have HW2 := HW1
      have HE1 := hid (show ExAt w17.heap.size 0 0 ⟨#[]⟩ .nil none 0 [] ((w17.alloc (.cells #[.int .i64 0, .int .i64 0, .string ⟨#[]⟩, .slice none 0 0] 28)).alloc (.cells #[.int .i64 0, .int .i64 0, .string ⟨#[]⟩, .slice none 0 0] 28)) from ⟨HZ1.out, .inl ⟨rfl, rfl⟩⟩)
      have HE2 := hid (show ExAt (w17.heap.size + 1) 0 0 ⟨#[]⟩ .nil none 0 [] ((w17.alloc (.cells #[.int .i64 0, .int .i64 0, .string ⟨#[]⟩, .slice none 0 0] 28)).alloc (.cells #[.int .i64 0, .int .i64 0, .string ⟨#[]⟩, .slice none 0 0] 28)) from ⟨HZ2.out, .inl ⟨rfl, rfl⟩⟩)
      have HSe := hid (HS17.out.far E18.out)
      have HPe := hid (HP17.out.far E18.out)
      obtain ⟨⟨v0, v1, v2, v3⟩, _⟩ := blk4 HSe.out.1
      obtain ⟨⟨t0, t1, t2, t3⟩, _⟩ := blk4 HE1.out.1
      go_wp2_with fail
      refine (same_true 0 0 ⟨#[]⟩ .nil _ rfl sp sc fs none 0 [] _ HSe.out.2 HE1.out.2 HSi.out.2.1 HSi.out.2.2 HW1.out.1 HW1.out.2).mono ?_
      rintro e w40 ⟨rfl, hb⟩
      have E40 := Ext.of_below (S := fun _ => False) hb
      have HPf := hid (HPe.out.ext E40)
      have HQf := hid (HE2.out.ext E40)
      have E41 := hid (E18.out.trans (E40.mono (fun _ _ h => h.elim)))
      obtain ⟨⟨q0, q1, q2, q3⟩, _⟩ := blk4 HPf.out.1
      obtain ⟨⟨r0, r1, r2, r3⟩, _⟩ := blk4 HQf.out.1
      clear hb E40 v0 v1 v2 v3 t0 t1 t2 t3
      go_wp2_with fail
      refine (same_true 0 0 ⟨#[]⟩ .nil _ rfl pp pc fp none 0 [] _ HPf.out.2 HQf.out.2 HPu.out.2.1 HPu.out.2.2 HW2.out.1 HW2.out.2).mono ?_
      rintro e w42 ⟨rfl, hb⟩
      have E42 := hid (E41.out.trans ((Ext.of_below (S := fun _ => False) hb).mono (fun _ _ h => h.elim)))
      clear hb q0 q1 q2 q3 r0 r1 r2 r3
      go_wp2_with fail
      refine (l_valued _).mono ?_
      rintro e w43 ⟨rfl, hb⟩
      have E43 := hid (E42.out.trans ((Ext.of_below (S := fun _ => False) hb).mono (fun _ _ h => h.elim)))
      have HB43 := hid (show Below w.heap.size w w43 from ⟨E43.out.os.trans HB17.out.os, E43.out.tape.trans HB17.out.tape, E43.out.output.trans HB17.out.output, Nat.le_trans HB17.out.size E43.out.size, fun i hi => (E43.out.block i (by have := HB17.out.size; omega) (by have := HB17.out.size; omega)).trans (HB17.out.block i hi)⟩)
      clear hb
      go_wp2_with fail
      go_ret
      exact ⟨rfl, HB43.out⟩
    subst he
    have HSm := hid (small_of_errE GE.out)
    have hsi : simAns op n s f = (simE op n s f, 0) := by unfold simAns; rw [if_neg (by rw [GE.out]; simp)]
    obtain rfl : 0 = sE := by rw [← GSi.out, hsi]
    have HSE := hid (show simE op n s f = F.cons so sn ss sa .nil by rw [← HSi.out.1, hsi])
    clear hsi GSi
    by_cases hs : es = 0
    case neg =>
      have hne : (es == 0) = false := by simpa using hs
      obtain rfl : es = two := by rw [← GO.out]; simp [orL]
      obtain rfl : es = three := by rw [← GT.out]; simp [orL, hs]
      have hbo : bothE 0 es = es := by unfold bothE; rw [if_neg (by simp)]
      have hpu : putAns nm yo yn ys yf op n s f = (nilE, es) := by unfold putAns; rw [GE.out, GS.out, hbo, if_pos hs]
      have hdi : difAns op n s f yo yn ys yf = (0, false, es) := by unfold difAns; rw [GE.out, GS.out, hbo, if_pos hs]
      obtain rfl : es = pE := by rw [← GPu.out, hpu]
      obtain ⟨g1, g2, g3⟩ := GD.out
      rw [hdi] at g1 g2 g3
      dsimp only at g1 g2 g3
      subst g1 g2 g3
      have hp0 : nilE = F.cons po pn ps pa .nil := by rw [← HPu.out.1, hpu]
      obtain ⟨rfl, rfl, rfl, rfl, _⟩ := F.cons.inj hp0
      clear hbo hpu hdi hp0 hs
      have HW2 := hid (show F.nil.len ≤ 0 ∧ (0 : Nat) ≤ 9223372036854775807 from ⟨by simp [F.len], by omega⟩)
      go_wp2_with fail
      refine (r_SimplestOf r_rules (f.size + 1) op n s f p c fa _ (by omega) (by have := HX.out.2.2.2; omega) HSm.out HX.out.2.2.1 HX18.out.2 HX.out.1 HX.out.2.1).mono ?_
      rintro e w20 ⟨⟨uo, un, us, ua, up, uc, fu, rfl, m1, m2, m3, m4, m5⟩, hb⟩
      obtain ⟨rfl, rfl, rfl, rfl, _⟩ := F.cons.inj (HSE.out.symm.trans m1)
      have E20 := Ext.of_below (S := fun _ => False) hb
      have hz20 : w17.heap.size + 2 ≤ w20.heap.size := by have := E20.size; omega
      have Z1 := E20.heap HZ1.out id
      have Z2 := E20.heap HZ2.out id
      have e21 := set4_ext (S := (· = w17.heap.size)) (a0 := .int .i64 so) (a1 := .int .i64 sn) (a2 := .string ss) (a3 := .slice up sa.len uc) (Ext.refl w20) (b := w17.heap.size) (.inl rfl)
      have E21 := hid (E18.out.trans ((E20.mono (fun _ _ h => h.elim)).trans (e21.mono (fun k _ h => Nat.le_of_eq (Eq.symm h)))))
      have HE1 := hid (show ExAt w17.heap.size so sn ss sa up uc fu ((((w20.setCell ⟨w17.heap.size, 0, none⟩ (.int .i64 so)).setCell ⟨w17.heap.size, 1, none⟩ (.int .i64 sn)).setCell ⟨w17.heap.size, 2, none⟩ (.string ss)).setCell ⟨w17.heap.size, 3, none⟩ (.slice up sa.len uc)) from ⟨set4_heap Z1, m2.ext e21 (fun b hb e => by have := m5 b hb; omega)⟩)
      have HE2 := hid (show ExAt (w17.heap.size + 1) 0 0 ⟨#[]⟩ .nil none 0 [] ((((w20.setCell ⟨w17.heap.size, 0, none⟩ (.int .i64 so)).setCell ⟨w17.heap.size, 1, none⟩ (.int .i64 sn)).setCell ⟨w17.heap.size, 2, none⟩ (.string ss)).setCell ⟨w17.heap.size, 3, none⟩ (.slice up sa.len uc)) from ⟨e21.heap Z2 (by omega), .inl ⟨rfl, rfl⟩⟩)
      have hz21 : w17.heap.size + 2 ≤ ((((w20.setCell ⟨w17.heap.size, 0, none⟩ (.int .i64 so)).setCell ⟨w17.heap.size, 1, none⟩ (.int .i64 sn)).setCell ⟨w17.heap.size, 2, none⟩ (.string ss)).setCell ⟨w17.heap.size, 3, none⟩ (.slice up sa.len uc)).heap.size := by have := e21.size; omega
      have HW1 := hid (And.intro m3 m4)
      obtain ⟨⟨z0, z1, z2, z3⟩, r0, r1, r2, r3⟩ := blk4 Z1
      clear m1 m2 m3 m4 m5 hb Z2 e21 E20 x0 x1 x2 x3 y0 y1 y2 y3 HX18 HY18 HZ1 HZ2
      have HSe := hid (HS17.out.far E21.out)
      have HPe := hid (HP17.out.far E21.out)
      obtain ⟨⟨v0, v1, v2, v3⟩, _⟩ := blk4 HSe.out.1
      obtain ⟨⟨t0, t1, t2, t3⟩, _⟩ := blk4 HE1.out.1
      go_wp2_with fail
      refine (same_true so sn ss sa _ rfl sp sc fs up uc fu _ HSe.out.2 HE1.out.2 HSi.out.2.1 HSi.out.2.2 HW1.out.1 HW1.out.2).mono ?_
      rintro e w40 ⟨rfl, hb⟩
      have E40 := Ext.of_below (S := fun _ => False) hb
      have HPf := hid (HPe.out.ext E40)
      have HQf := hid (HE2.out.ext E40)
      have E41 := hid (E21.out.trans (E40.mono (fun _ _ h => h.elim)))
      obtain ⟨⟨q0, q1, q2, q3⟩, _⟩ := blk4 HPf.out.1
      obtain ⟨⟨r0, r1, r2, r3⟩, _⟩ := blk4 HQf.out.1
      clear hb E40 v0 v1 v2 v3 t0 t1 t2 t3
      go_wp2_with fail
      refine (same_true 0 0 ⟨#[]⟩ .nil _ rfl pp pc fp none 0 [] _ HPf.out.2 HQf.out.2 HPu.out.2.1 HPu.out.2.2 HW2.out.1 HW2.out.2).mono ?_
      rintro e w42 ⟨rfl, hb⟩
      have E42 := hid (E41.out.trans ((Ext.of_below (S := fun _ => False) hb).mono (fun _ _ h => h.elim)))
      clear hb q0 q1 q2 q3 r0 r1 r2 r3
      go_wp2_with fail
      refine (l_valued _).mono ?_
      rintro e w43 ⟨rfl, hb⟩
      have E43 := hid (E42.out.trans ((Ext.of_below (S := fun _ => False) hb).mono (fun _ _ h => h.elim)))
      have HB43 := hid (show Below w.heap.size w w43 from ⟨E43.out.os.trans HB17.out.os, E43.out.tape.trans HB17.out.tape, E43.out.output.trans HB17.out.output, Nat.le_trans HB17.out.size E43.out.size, fun i hi => (E43.out.block i (by have := HB17.out.size; omega) (by have := HB17.out.size; omega)).trans (HB17.out.block i hi)⟩)
      clear hb
      go_wp2_with fail
      go_ret
      exact ⟨rfl, HB43.out⟩
    subst hs
    obtain rfl : 0 = two := by rw [← GO.out]; simp [orL]
    cases hn : nameB nm.data.toList
    case false =>
      have HN := hid hn
      rw [hn] at GN
      obtain rfl : 5 = nf := by simpa using GN.out
      obtain rfl : 5 = three := by rw [← GT.out]; simp [orL]
      have hpu : putAns nm yo yn ys yf op n s f = (nilE, 5) := by unfold putAns bothE; rw [GE.out, GS.out, if_neg (by simp), if_pos hn]
      obtain rfl : 5 = pE := by rw [← GPu.out, hpu]
      have hp0 : nilE = F.cons po pn ps pa .nil := by rw [← HPu.out.1, hpu]
      obtain ⟨rfl, rfl, rfl, rfl, _⟩ := F.cons.inj hp0
      clear hpu hp0 hn GN
      have HW2 := hid (show F.nil.len ≤ 0 ∧ (0 : Nat) ≤ 9223372036854775807 from ⟨by simp [F.len], by omega⟩)
      have HD := hid (show ∀ (u : World), RdP u f p fa → RdP u yf yp fy → Calls Tryz.prog 30 #[.agg #[.int .i64 op, .int .i64 n, .string s, .slice p f.len c], .agg #[.int .i64 yo, .int .i64 yn, .string ys, .slice yp yf.len yc]] u fun e w' => e = .returned (.tuple #[.int .i64 d1, .bool d2, .int .i64 d3]) ∧ Below u.heap.size u w' from fun u h1 h2 => by
        have h := r_DifferAt op n s f p c fa yo yn ys yf yp yc fy u (by have := HX.out.2.2.2; omega) (by have := HYd.out.2.2.2; omega) h1 HX.out.1 HX.out.2.1 HX.out.2.2.1 h2 HYd.out.1 HYd.out.2.1 HYd.out.2.2.1 GE.out GS.out
        rw [GD.out.1, GD.out.2.1, GD.out.2.2] at h
        exact h)
      go_wp2_with fail
      refine (r_SimplestOf r_rules (f.size + 1) op n s f p c fa _ (by omega) (by have := HX.out.2.2.2; omega) HSm.out HX.out.2.2.1 HX18.out.2 HX.out.1 HX.out.2.1).mono ?_
      rintro e w20 ⟨⟨uo, un, us, ua, up, uc, fu, rfl, m1, m2, m3, m4, m5⟩, hb⟩
      obtain ⟨rfl, rfl, rfl, rfl, _⟩ := F.cons.inj (HSE.out.symm.trans m1)
      have E20 := Ext.of_below (S := fun _ => False) hb
      have hz20 : w17.heap.size + 2 ≤ w20.heap.size := by have := E20.size; omega
      have Z1 := E20.heap HZ1.out id
      have Z2 := E20.heap HZ2.out id
      have e21 := set4_ext (S := (· = w17.heap.size)) (a0 := .int .i64 so) (a1 := .int .i64 sn) (a2 := .string ss) (a3 := .slice up sa.len uc) (Ext.refl w20) (b := w17.heap.size) (.inl rfl)
      have E21 := hid (E18.out.trans ((E20.mono (fun _ _ h => h.elim)).trans (e21.mono (fun k _ h => Nat.le_of_eq (Eq.symm h)))))
      have HE1 := hid (show ExAt w17.heap.size so sn ss sa up uc fu ((((w20.setCell ⟨w17.heap.size, 0, none⟩ (.int .i64 so)).setCell ⟨w17.heap.size, 1, none⟩ (.int .i64 sn)).setCell ⟨w17.heap.size, 2, none⟩ (.string ss)).setCell ⟨w17.heap.size, 3, none⟩ (.slice up sa.len uc)) from ⟨set4_heap Z1, m2.ext e21 (fun b hb e => by have := m5 b hb; omega)⟩)
      have HE2 := hid (show ExAt (w17.heap.size + 1) 0 0 ⟨#[]⟩ .nil none 0 [] ((((w20.setCell ⟨w17.heap.size, 0, none⟩ (.int .i64 so)).setCell ⟨w17.heap.size, 1, none⟩ (.int .i64 sn)).setCell ⟨w17.heap.size, 2, none⟩ (.string ss)).setCell ⟨w17.heap.size, 3, none⟩ (.slice up sa.len uc)) from ⟨e21.heap Z2 (by omega), .inl ⟨rfl, rfl⟩⟩)
      have hz21 : w17.heap.size + 2 ≤ ((((w20.setCell ⟨w17.heap.size, 0, none⟩ (.int .i64 so)).setCell ⟨w17.heap.size, 1, none⟩ (.int .i64 sn)).setCell ⟨w17.heap.size, 2, none⟩ (.string ss)).setCell ⟨w17.heap.size, 3, none⟩ (.slice up sa.len uc)).heap.size := by have := e21.size; omega
      have HW1 := hid (And.intro m3 m4)
      obtain ⟨⟨z0, z1, z2, z3⟩, r0, r1, r2, r3⟩ := blk4 Z1
      clear m1 m2 m3 m4 m5 hb Z2 e21 E20 x0 x1 x2 x3 y0 y1 y2 y3 HX18 HY18 HZ1 HZ2
      have HXd := hid (HX17.out.far E21.out)
      have HYd2 := hid (HY17.out.far E21.out)
      obtain ⟨⟨x0, x1, x2, x3⟩, _⟩ := blk4 HXd.out.1
      obtain ⟨⟨y0, y1, y2, y3⟩, _⟩ := blk4 HYd2.out.1
      go_wp2_with fail
      refine (HD.out _ HXd.out.2 HYd2.out.2).mono ?_
      rintro e w30 ⟨rfl, hb⟩
      have E29 := Ext.of_below (S := fun _ => False) hb
      have E30 := hid (E21.out.trans (E29.mono (fun _ _ h => h.elim)))
      have HF1 := hid (HE1.out.ext E29)
      have HF2 := hid (HE2.out.ext E29)
      clear hb E29 HXd HYd2 HE1 HE2 x0 x1 x2 x3 y0 y1 y2 y3
      clear z0 z1 z2 z3 r0 r1 r2 r3 Z1
      have HSe := hid (HS17.out.far E30.out)
      have HPe := hid (HP17.out.far E30.out)
      obtain ⟨⟨v0, v1, v2, v3⟩, _⟩ := blk4 HSe.out.1
      obtain ⟨⟨t0, t1, t2, t3⟩, _⟩ := blk4 HF1.out.1
      go_wp2_with fail
      refine (same_true so sn ss sa _ rfl sp sc fs up uc fu _ HSe.out.2 HF1.out.2 HSi.out.2.1 HSi.out.2.2 HW1.out.1 HW1.out.2).mono ?_
      rintro e w40 ⟨rfl, hb⟩
      have E40 := Ext.of_below (S := fun _ => False) hb
      have HPf := hid (HPe.out.ext E40)
      have HQf := hid (HF2.out.ext E40)
      have E41 := hid (E30.out.trans (E40.mono (fun _ _ h => h.elim)))
      obtain ⟨⟨q0, q1, q2, q3⟩, _⟩ := blk4 HPf.out.1
      obtain ⟨⟨r0, r1, r2, r3⟩, _⟩ := blk4 HQf.out.1
      clear hb E40 v0 v1 v2 v3 t0 t1 t2 t3
      go_wp2_with fail
      refine (same_true 0 0 ⟨#[]⟩ .nil _ rfl pp pc fp none 0 [] _ HPf.out.2 HQf.out.2 HPu.out.2.1 HPu.out.2.2 HW2.out.1 HW2.out.2).mono ?_
      rintro e w42 ⟨rfl, hb⟩
      have E42 := hid (E41.out.trans ((Ext.of_below (S := fun _ => False) hb).mono (fun _ _ h => h.elim)))
      clear hb q0 q1 q2 q3 r0 r1 r2 r3
      go_wp2_with fail
      refine (l_valued _).mono ?_
      rintro e w43 ⟨rfl, hb⟩
      have E43 := hid (E42.out.trans ((Ext.of_below (S := fun _ => False) hb).mono (fun _ _ h => h.elim)))
      have HB43 := hid (show Below w.heap.size w w43 from ⟨E43.out.os.trans HB17.out.os, E43.out.tape.trans HB17.out.tape, E43.out.output.trans HB17.out.output, Nat.le_trans HB17.out.size E43.out.size, fun i hi => (E43.out.block i (by have := HB17.out.size; omega) (by have := HB17.out.size; omega)).trans (HB17.out.block i hi)⟩)
      clear hb
      go_wp2_with fail
      go_ret
      exact ⟨rfl, HB43.out⟩
    case true =>
      have HN := hid hn
      rw [hn] at GN
      obtain rfl : 0 = nf := by simpa using GN.out
      obtain rfl : 0 = three := by rw [← GT.out]; simp [orL]
      clear hn GN
      have HD := hid (show ∀ (u : World), RdP u f p fa → RdP u yf yp fy → Calls Tryz.prog 30 #[.agg #[.int .i64 op, .int .i64 n, .string s, .slice p f.len c], .agg #[.int .i64 yo, .int .i64 yn, .string ys, .slice yp yf.len yc]] u fun e w' => e = .returned (.tuple #[.int .i64 d1, .bool d2, .int .i64 d3]) ∧ Below u.heap.size u w' from fun u h1 h2 => by
        have h := r_DifferAt op n s f p c fa yo yn ys yf yp yc fy u (by have := HX.out.2.2.2; omega) (by have := HYd.out.2.2.2; omega) h1 HX.out.1 HX.out.2.1 HX.out.2.2.1 h2 HYd.out.1 HYd.out.2.1 HYd.out.2.2.1 GE.out GS.out
        rw [GD.out.1, GD.out.2.1, GD.out.2.2] at h
        exact h)
      go_wp2_with fail
      refine (r_SimplestOf r_rules (f.size + 1) op n s f p c fa _ (by omega) (by have := HX.out.2.2.2; omega) HSm.out HX.out.2.2.1 HX18.out.2 HX.out.1 HX.out.2.1).mono ?_
      rintro e w20 ⟨⟨uo, un, us, ua, up, uc, fu, rfl, m1, m2, m3, m4, m5⟩, hb⟩
      obtain ⟨rfl, rfl, rfl, rfl, _⟩ := F.cons.inj (HSE.out.symm.trans m1)
      have E20 := Ext.of_below (S := fun _ => False) hb
      have hz20 : w17.heap.size + 2 ≤ w20.heap.size := by have := E20.size; omega
      have Z1 := E20.heap HZ1.out id
      have Z2 := E20.heap HZ2.out id
      have e21 := set4_ext (S := (· = w17.heap.size)) (a0 := .int .i64 so) (a1 := .int .i64 sn) (a2 := .string ss) (a3 := .slice up sa.len uc) (Ext.refl w20) (b := w17.heap.size) (.inl rfl)
      have E21 := hid (E18.out.trans ((E20.mono (fun _ _ h => h.elim)).trans (e21.mono (fun k _ h => Nat.le_of_eq (Eq.symm h)))))
      have HE1 := hid (show ExAt w17.heap.size so sn ss sa up uc fu ((((w20.setCell ⟨w17.heap.size, 0, none⟩ (.int .i64 so)).setCell ⟨w17.heap.size, 1, none⟩ (.int .i64 sn)).setCell ⟨w17.heap.size, 2, none⟩ (.string ss)).setCell ⟨w17.heap.size, 3, none⟩ (.slice up sa.len uc)) from ⟨set4_heap Z1, m2.ext e21 (fun b hb e => by have := m5 b hb; omega)⟩)
      have HE2 := hid (show ExAt (w17.heap.size + 1) 0 0 ⟨#[]⟩ .nil none 0 [] ((((w20.setCell ⟨w17.heap.size, 0, none⟩ (.int .i64 so)).setCell ⟨w17.heap.size, 1, none⟩ (.int .i64 sn)).setCell ⟨w17.heap.size, 2, none⟩ (.string ss)).setCell ⟨w17.heap.size, 3, none⟩ (.slice up sa.len uc)) from ⟨e21.heap Z2 (by omega), .inl ⟨rfl, rfl⟩⟩)
      have hz21 : w17.heap.size + 2 ≤ ((((w20.setCell ⟨w17.heap.size, 0, none⟩ (.int .i64 so)).setCell ⟨w17.heap.size, 1, none⟩ (.int .i64 sn)).setCell ⟨w17.heap.size, 2, none⟩ (.string ss)).setCell ⟨w17.heap.size, 3, none⟩ (.slice up sa.len uc)).heap.size := by have := e21.size; omega
      have HW1 := hid (And.intro m3 m4)
      have HFU : ∀ b ∈ fu, ¬ (b = w17.heap.size + 1) := fun b hb e => by have := m5 b hb; omega
      obtain ⟨⟨z0, z1, z2, z3⟩, r0, r1, r2, r3⟩ := blk4 Z1
      clear m1 m2 m3 m4 m5 hb Z2 e21 E20 x0 x1 x2 x3 y0 y1 y2 y3 HX18 HY18 HZ1 HZ2
      have HXd := hid (HX17.out.far E21.out)
      have HYd2 := hid (HY17.out.far E21.out)
      obtain ⟨⟨x0, x1, x2, x3⟩, _⟩ := blk4 HXd.out.1
      obtain ⟨⟨y0, y1, y2, y3⟩, _⟩ := blk4 HYd2.out.1
      go_wp2_with fail
      refine (r_PutIn nm op n s f p c fa yo yn ys yf yp yc fy _ (by have := HX.out.2.2.2; omega) HXd.out.2 HX.out.1 HX.out.2.1 HX.out.2.2.1 HYd2.out.2 HYd.out.1 HYd.out.2.1 HYd.out.2.2.1 GE.out GS.out HN.out).mono ?_
      rintro e w22 ⟨⟨vo, vn, vs, va, vp, vc, fv, rfl, m1, m2, m3, m4, m5⟩, hb⟩
      obtain ⟨rfl, rfl, rfl, rfl, _⟩ := F.cons.inj (HPu.out.1.symm.trans m1)
      have E22 := Ext.of_below (S := fun _ => False) hb
      have hz22 : w17.heap.size + 2 ≤ w22.heap.size := by have := E22.size; omega
      have Z2 := (HE2.out.ext E22).1
      have hlt : ∀ b ∈ fy, b < w17.heap.size := HY17.out.2.lt
      have e23 := set4_ext (S := (· = w17.heap.size + 1)) (a0 := .int .i64 po) (a1 := .int .i64 pn) (a2 := .string ps) (a3 := .slice vp pa.len vc) (Ext.refl w22) (b := w17.heap.size + 1) (.inl rfl)
      have E23 := hid (E21.out.trans ((E22.mono (fun _ _ h => h.elim)).trans (e23.mono (fun k _ h => by subst h; exact Nat.le_succ _))))
      have HG1 := hid (show ExAt w17.heap.size so sn ss sa up uc fu ((((w22.setCell ⟨w17.heap.size + 1, 0, none⟩ (.int .i64 po)).setCell ⟨w17.heap.size + 1, 1, none⟩ (.int .i64 pn)).setCell ⟨w17.heap.size + 1, 2, none⟩ (.string ps)).setCell ⟨w17.heap.size + 1, 3, none⟩ (.slice vp pa.len vc)) from (HE1.out.ext E22).ext_s e23 (by omega) HFU)
      have HG2 := hid (show ExAt (w17.heap.size + 1) po pn ps pa vp vc fv ((((w22.setCell ⟨w17.heap.size + 1, 0, none⟩ (.int .i64 po)).setCell ⟨w17.heap.size + 1, 1, none⟩ (.int .i64 pn)).setCell ⟨w17.heap.size + 1, 2, none⟩ (.string ps)).setCell ⟨w17.heap.size + 1, 3, none⟩ (.slice vp pa.len vc)) from ⟨set4_heap Z2, m2.ext e23 (fun b hb e => by rcases m5 b hb with h | h; omega; have := hlt b h; omega)⟩)
      have HW2 := hid (And.intro m3 m4)
      clear z0 z1 z2 z3 r0 r1 r2 r3 Z1
      obtain ⟨⟨z0, z1, z2, z3⟩, r0, r1, r2, r3⟩ := blk4 Z2
      rw [GPu.out]
      clear m1 m2 m3 m4 m5 hb Z2 e23 E22 HXd HYd2 HE1 HE2 hlt x0 x1 x2 x3 y0 y1 y2 y3
      have HXd := hid (HX17.out.far E23.out)
      have HYd2 := hid (HY17.out.far E23.out)
      obtain ⟨⟨x0, x1, x2, x3⟩, _⟩ := blk4 HXd.out.1
      obtain ⟨⟨y0, y1, y2, y3⟩, _⟩ := blk4 HYd2.out.1
      go_wp2_with fail
      refine (HD.out _ HXd.out.2 HYd2.out.2).mono ?_
      rintro e w30 ⟨rfl, hb⟩
      have E29 := Ext.of_below (S := fun _ => False) hb
      have E30 := hid (E23.out.trans (E29.mono (fun _ _ h => h.elim)))
      have HF1 := hid (HG1.out.ext E29)
      have HF2 := hid (HG2.out.ext E29)
      clear hb E29 HXd HYd2 HG1 HG2 x0 x1 x2 x3 y0 y1 y2 y3
      clear z0 z1 z2 z3 r0 r1 r2 r3
      have HSe := hid (HS17.out.far E30.out)
      have HPe := hid (HP17.out.far E30.out)
      obtain ⟨⟨v0, v1, v2, v3⟩, _⟩ := blk4 HSe.out.1
      obtain ⟨⟨t0, t1, t2, t3⟩, _⟩ := blk4 HF1.out.1
      go_wp2_with fail
      refine (same_true so sn ss sa _ rfl sp sc fs up uc fu _ HSe.out.2 HF1.out.2 HSi.out.2.1 HSi.out.2.2 HW1.out.1 HW1.out.2).mono ?_
      rintro e w40 ⟨rfl, hb⟩
      have E40 := Ext.of_below (S := fun _ => False) hb
      have HPf := hid (HPe.out.ext E40)
      have HQf := hid (HF2.out.ext E40)
      have E41 := hid (E30.out.trans (E40.mono (fun _ _ h => h.elim)))
      obtain ⟨⟨q0, q1, q2, q3⟩, _⟩ := blk4 HPf.out.1
      obtain ⟨⟨r0, r1, r2, r3⟩, _⟩ := blk4 HQf.out.1
      clear hb E40 v0 v1 v2 v3 t0 t1 t2 t3
      go_wp2_with fail
      refine (same_true po pn ps pa _ rfl pp pc fp vp vc fv _ HPf.out.2 HQf.out.2 HPu.out.2.1 HPu.out.2.2 HW2.out.1 HW2.out.2).mono ?_
      rintro e w42 ⟨rfl, hb⟩
      have E42 := hid (E41.out.trans ((Ext.of_below (S := fun _ => False) hb).mono (fun _ _ h => h.elim)))
      clear hb q0 q1 q2 q3 r0 r1 r2 r3
      go_wp2_with fail
      refine (l_valued _).mono ?_
      rintro e w43 ⟨rfl, hb⟩
      have E43 := hid (E42.out.trans ((Ext.of_below (S := fun _ => False) hb).mono (fun _ _ h => h.elim)))
      have HB43 := hid (show Below w.heap.size w w43 from ⟨E43.out.os.trans HB17.out.os, E43.out.tape.trans HB17.out.tape, E43.out.output.trans HB17.out.output, Nat.le_trans HB17.out.size E43.out.size, fun i hi => (E43.out.block i (by have := HB17.out.size; omega) (by have := HB17.out.size; omega)).trans (HB17.out.block i hi)⟩)
      clear hb
      go_wp2_with fail
      go_ret
      exact ⟨rfl, HB43.out⟩
end Go.Proofs.YtkgciohebloffaaGreat
