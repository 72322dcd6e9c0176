/- Texts joined: LawV. -/
import Derived.Test.YtkgciohebloffaaGreatJS12
import Derived.Test.YtkgciohebloffaaGreatJS30
import Derived.Test.YtkgciohebloffaaGreatJS16
import Derived.Test.YtkgciohebloffaaGreatJS28
import Derived.Deep.RegionHeld3
/- The law ExprsValued, out of the contracts of what it calls. -/
namespace Go.Proofs.YtkgciohebloffaaGreat
open Go.RowKit

theorem box_rd {w : World} {b : Nat} {op n : Int} {s : ByteArray} {a : F} {p : Option Addr} {c : Nat} {fa : List Nat} (hb : w.heap[b]? = some (.cells #[.int .i64 op, .int .i64 n, .string s, .slice p a.len c] 28 (0, 0))) (h : RdP w a p fa) (h1 : a.len ≤ c) (h2 : c ≤ 9223372036854775807) : RdP w (F.cons op n s a .nil) (some ⟨b, 0, none⟩) (b :: fa) := by
  refine .inr ⟨b, 0, [.int .i64 op, .int .i64 n, .string s, .slice p a.len c], fa, rfl, rfl, by simp [F.len], ?_, fun k => by simp [World.frozen?, hb], ?_⟩
  · intro i v hv
    rw [Nat.zero_add, cell_of_row _ _ _ _ _ _ hb, ← Array.getElem?_toList]
    exact hv
  · exact ⟨p, c, fa, [], [], rfl, by simp, h1, h2, ⟨rfl, rfl⟩, h⟩

/-- What a law has behind its draws: its expression's variable, the expression, and what R says. -/
def LInv (R : World → Prop) (w0 : World) (xb : Nat) (op n : Int) (s : ByteArray) (f : F) (p : Option Addr) (c : Nat) (fa : List Nat) (w : World) : Prop :=
  w.heap[xb]? = some (.cells #[.int .i64 op, .int .i64 n, .string s, .slice p f.len c] 28 (0, 0)) ∧ Below w0.heap.size w0 w ∧ RdP w f p fa ∧ R w ∧ w0.heap.size ≤ w.heap.size
theorem LInv.ext {R : World → Prop} {w0 : World} {xb : Nat} {op n : Int} {s : ByteArray} {f : F} {p : Option Addr} {c : Nat} {fa : List Nat} {w w' : World} (h : LInv R w0 xb op n s f p c fa w) (e : Ext (fun _ => False) w w') (hR : ∀ a b, Ext (fun _ => False) a b → R a → R b) : LInv R w0 xb op n s f p c fa w' :=
  ⟨e.heap h.1 id, below_ext h.2.1 e h.2.2.2.2, h.2.2.1.ext e (fun _ _ => id), hR _ _ e h.2.2.2.1, Nat.le_trans h.2.2.2.2 e.size⟩
theorem LInv.below {R : World → Prop} {w0 : World} {xb : Nat} {op n : Int} {s : ByteArray} {f : F} {p : Option Addr} {c : Nat} {fa : List Nat} {w w' : World} (h : LInv R w0 xb op n s f p c fa w) (e : Below w.heap.size w w') (hR : ∀ a b, Ext (fun _ => False) a b → R a → R b) : LInv R w0 xb op n s f p c fa w' := h.ext (Ext.of_below e) hR

theorem equal_same (ts : List (List UInt8)) (q1 q2 : Option Addr) (c1 c2 : Nat) (w : World) (h1 : StrsAt w q1 ts) (h2 : StrsAt w q2 ts) (hl : ts.length ≤ 9223372036854775807) :
    Calls Tryz.prog 20 #[.slice q1 ts.length c1, .slice q2 ts.length c2] w fun e w' => e = .returned (.bool true) ∧ Below w.heap.size w w' := by
  by_cases ht : ts = []
  · subst ht
    refine (Tryz.slices_Equal_string_empty q1 q2 c1 0 c2 w (by omega)).mono ?_
    rintro e w' ⟨rfl, rfl⟩
    exact ⟨rfl, Below.refl _ _⟩
  · rcases h1 with h1 | ⟨g1, rfl, h1⟩
    · exact absurd h1 ht
    rcases h2 with h2 | ⟨g2, rfl, h2⟩
    · exact absurd h2 ht
    have hx : ∀ (g : Nat), (∀ i x, ts[i]? = some x → w.cell? ⟨g, i, none⟩ = some (encStr x)) → ∀ j, j < (ts.map fun l => (⟨l.toArray⟩ : ByteArray)).length → w.cell? ⟨g, 0 + j, none⟩ = some (.string ((ts.map fun l => (⟨l.toArray⟩ : ByteArray)).getD j ByteArray.empty)) := fun g h j hj => by
      rw [List.length_map] at hj
      rw [Nat.zero_add, h j _ (List.getElem?_eq_getElem hj), List.getD_eq_getElem?_getD, List.getElem?_map, List.getElem?_eq_getElem hj]; rfl
    refine (Tryz.slices_Equal_string g1 0 ts.length c1 g2 0 ts.length c2 (ts.map fun l => ⟨l.toArray⟩) (ts.map fun l => ⟨l.toArray⟩) w (by simp) (by simp) hl hl (hx g1 h1) (hx g2 h2)).mono ?_
    rintro e w' ⟨rfl, q, rfl⟩
    exact ⟨by simp, bdrewN3 (Below.refl _ _) q⟩
theorem StrsAt.ext {S : Nat → Prop} {w w' : World} {q : Option Addr} {ts : List (List UInt8)} (h : StrsAt w q ts) (e : Ext S w w') (hb : ∀ x, q = some x → ¬ S x.block) : StrsAt w' q ts := by
  rcases h with h | ⟨g, rfl, h⟩
  · exact .inl h
  · exact .inr ⟨g, rfl, fun i x hx => e.cell_some (p := ⟨g, i, none⟩) (h i x hx) (hb ⟨g, 0, none⟩ rfl)⟩
theorem vsOf_le (f : F) : (vsOf f).length ≤ f.size := by
  have h1 := Lib.compact_length_le ((nmL (ptF f)).mergeSort fun x y => decide (x ≤ y))
  have h2 := nmL_le (ptF f)
  rw [ptF_length] at h2
  rw [List.length_mergeSort] at h1
  unfold vsOf; omega
theorem good_of_slErr : ∀ (y : ByteArray) (L : List (ByteArray × Int)), slErr y L = 0 → SlGood L
  | _, [], _ => by intro x hx; simp at hx
  | p, x :: r, h => by
    unfold slErr at h
    split at h
    · cases h
    split at h
    · cases h
    split at h
    · cases h
    rename_i h1 h2 h3
    intro y hy
    rcases List.mem_cons.1 hy with rfl | hy
    · simp only [V999]; omega
    · exact good_of_slErr _ r h y hy
/-- What Eval answers. -/
def valAns (L : List (ByteArray × Int)) (op n : Int) (s : ByteArray) (a : F) : Int × Int :=
  if errE op n s a 1 ≠ 0 then (0, errE op n s a 1) else if slErr ⟨#[]⟩ L ≠ 0 then (0, slErr ⟨#[]⟩ L) else (valE L op n s a, 0)
/-- What Vars answers. -/
def vsAns (op n : Int) (s : ByteArray) (a : F) : List (List UInt8) := if errE op n s a 1 ≠ 0 then [] else vsOf (.cons op n s a .nil)
/-- What Size answers. -/
def szAns (op n : Int) (s : ByteArray) (a : F) : Int := if errE op n s a 1 ≠ 0 then 0 else ((a.size + 1 : Nat) : Int)

set_option maxRecDepth 100000 in
set_option maxHeartbeats 4000000 in
theorem law_valued
    (hE : ∀ (op n : Int) (s : ByteArray) (a : F) (p : Option Addr) (c : Nat) (fa : List Nat) (L : List (ByteArray × Int)) (lp : Option Addr) (lc : Nat) (w : World), a.size ≤ 149 → RdP w a p fa → a.len ≤ c → c ≤ 9223372036854775807 → (F.cons op n s a .nil).Fits → SlP w L lp → L.length ≤ 4 → L.length ≤ lc → lc ≤ maxLen → (∀ x ∈ L, SlOk x) →
      Calls Tryz.prog 11 #[.agg #[.int .i64 op, .int .i64 n, .string s, .slice p a.len c], .slice lp L.length lc] w fun e w' => e = .returned (.tuple #[.int .i64 (valAns L op n s a).1, .int .i64 (valAns L op n s a).2]) ∧ Below w.heap.size w w')
    (hVs : ∀ (op n : Int) (s : ByteArray) (a : F) (p : Option Addr) (c : Nat) (fa : List Nat) (w : World), a.size ≤ 149 → RdP w a p fa → a.len ≤ c → c ≤ 9223372036854775807 → (F.cons op n s a .nil).Fits →
      Calls Tryz.prog 12 #[.agg #[.int .i64 op, .int .i64 n, .string s, .slice p a.len c]] w fun e w' => (∃ q k, e = .returned (.tuple #[.slice q (vsAns op n s a).length k, .int .i64 (errE op n s a 1)]) ∧ StrsAt w' q (vsAns op n s a)) ∧ Below w.heap.size w w')
    (hSz : ∀ (op n : Int) (s : ByteArray) (a : F) (p : Option Addr) (c : Nat) (fa : List Nat) (w : World), a.size ≤ 149 → RdP w a p fa → a.len ≤ c → c ≤ 9223372036854775807 → (F.cons op n s a .nil).Fits →
      Calls Tryz.prog 13 #[.agg #[.int .i64 op, .int .i64 n, .string s, .slice p a.len c]] w fun e w' => e = .returned (.tuple #[.int .i64 (szAns op n s a), .int .i64 (errE op n s a 1)]) ∧ Below w.heap.size w w')
    (hCS : ∀ (L : List (ByteArray × Int)) (p : Option Addr) (c : Nat) (w : World), SlP w L p → L.length ≤ 4 → L.length ≤ c → c ≤ maxLen → (∀ x ∈ L, SlOk x) →
      Calls Tryz.prog 19 #[.slice p L.length c] w fun e w' => e = .returned (.int .i64 (slErr ⟨#[]⟩ L)) ∧ Below w.heap.size w w')
    (hV : ∀ w : World, Calls Tryz.prog 21 #[] w fun e w' => e = .returned (.bool true) ∧ Below w.heap.size w w')
    (a0 : Option Addr) (len cap : Nat) (zs : List Int) (w : World) (hr : IsRow w a0 len cap zs) :
    Calls Tryz.prog 3 #[.slice a0 len cap] w fun e w' => e = .returned (.bool true) ∧ Below w.heap.size w w' := by
  have HR := hid hr
  clear hr
  go_enter Tryz.func3, Tryz.ntmps3
  go_wp2_with fail
  have HS := hid (str_start (T := 25) HR.out)
  have HB1 := hid (alloc_below w (.cells #[.slice a0 len cap, .int .i64 0] 25))
  have hz1 : w.heap.size + 1 = (w.alloc (.cells #[.slice a0 len cap, .int .i64 0] 25)).heap.size := by simp
  generalize w.alloc (.cells #[.slice a0 len cap, .int .i64 0] 25) = w1 at *
  refine (anexpr_any _ HS.out (by omega)).mono ?_
  rintro e w2 ⟨⟨op, n, s, f, p, c, fa, rfl, h1, h2, h3, h4, h5, h6⟩, hw2⟩
  obtain ⟨at2, hs2, hle2⟩ := hw2.2
  have HX := hid (And.intro h1 (And.intro h2 (And.intro h3 (And.intro h4 (And.intro h5 (show f.size ≤ 149 by omega))))))
  have HS2 := hid hs2
  have HB2 := hid (below_went HB1.out hw2.1 (Nat.le_refl _) (by omega))
  have hz2 : w.heap.size + 1 ≤ w2.heap.size := by have := hw2.1.size; omega
  clear h1 h2 h3 h4 h5 h6 hs2 hw2
  go_wp2_with fail
  refine (slots_any _ HS2.out (by omega)).mono ?_
  rintro e w3 ⟨⟨L, lp, lc, rfl, hlp, hl3, hok, hlc, hlm⟩, hw3⟩
  have hP3 : SlP w3 L lp := hlp.elim .inl fun ⟨b, h, _, k⟩ => .inr ⟨b, h, k⟩
  have hB3 := below_went HB2.out hw3.1 (Nat.le_refl _) (by omega)
  have hz3 : w.heap.size + 1 ≤ w3.heap.size := Nat.le_trans hz2 hw3.1.size
  have hR3 := HX.out.1.ext hw3.1 (fun b hb e => by have := HX.out.2.2.2.1 b hb; omega)
  have E3 := (Ext.refl (S := fun _ => False) w3).alloc (.cells #[.int .i64 op, .int .i64 n, .string s, .slice p f.len c] 28)
  have HI4 : Hid (LInv (fun u => SlP u L lp) w w3.heap.size op n s f p c fa (w3.alloc (.cells #[.int .i64 op, .int .i64 n, .string s, .slice p f.len c] 28))) :=
    hid ⟨heap_new w3 _, hB3.alloc (by omega) _, hR3.ext E3 (fun _ _ => id), hP3.ext E3 (fun _ _ => id), by simp; omega⟩
  have hSP : ∀ a b, Ext (fun _ => False) a b → SlP a L lp → SlP b L lp := fun a b e h => h.ext e (fun _ _ => id)
  have HE := hid hSP
  have HL := hid (And.intro hl3 (And.intro hlc (And.intro hlm hok)))
  have hm3 : (lc : Int) ≤ 9223372036854775807 := by unfold maxLen at hlm; omega
  have hl3' : (L.length : Int) ≤ 4 := by omega
  clear hlp hok hw3 hP3 hB3 hR3 E3 hSP hl3 hlc hlm
  go_wp2_with fail
  generalize w3.alloc (.cells #[.int .i64 op, .int .i64 n, .string s, .slice p f.len c] 28) = w4 at *
  refine (q_ExprFault op n s f p c fa _ HI4.out.2.2.1 HX.out.2.1 HX.out.2.2.1 HX.out.2.2.2.2.1).mono ?_
  rintro e w5 ⟨rfl, hb⟩
  have HI5 := hid (HI4.out.below hb HE.out)
  obtain ⟨⟨q0, q1, q2, q3⟩, _⟩ := blk4 HI5.out.1
  clear hb HI4
  generalize hge : errE op n s f 1 = er
  have GE := hid hge
  clear hge
  go_wp2_with fail
  refine (q_SlotsFault L lp lc _ HI5.out.2.2.2.1 HL.out.1 HL.out.2.1 HL.out.2.2.1 HL.out.2.2.2).mono ?_
  rintro e w6 ⟨rfl, hb⟩
  have HI6 := hid (HI5.out.below hb HE.out)
  clear hb HI5 q0 q1 q2 q3
  obtain ⟨⟨q0, q1, q2, q3⟩, _⟩ := blk4 HI6.out.1
  generalize hgs : slErr ⟨#[]⟩ L = es
  have GS := hid hgs
  clear hgs
  go_wp2_with fail
  refine (hE op n s f p c fa L lp lc _ HX.out.2.2.2.2.2 HI6.out.2.2.1 HX.out.2.1 HX.out.2.2.1 HX.out.2.2.2.2.1 HI6.out.2.2.2.1 HL.out.1 HL.out.2.1 HL.out.2.2.1 HL.out.2.2.2).mono ?_
  rintro e w7 ⟨rfl, hb⟩
  have HI7 := hid (HI6.out.below hb HE.out)
  clear hb HI6 q0 q1 q2 q3
  obtain ⟨⟨q0, q1, q2, q3⟩, _⟩ := blk4 HI7.out.1
  generalize hg1 : (valAns L op n s f).1 = v1
  generalize hg2 : (valAns L op n s f).2 = v2
  have G1 := hid hg1
  have G2 := hid hg2
  clear hg1 hg2
  go_wp2_with fail
  refine (hVs op n s f p c fa _ HX.out.2.2.2.2.2 HI7.out.2.2.1 HX.out.2.1 HX.out.2.2.1 HX.out.2.2.2.2.1).mono ?_
  rintro e w8 ⟨⟨vq, vk, rfl, hst⟩, hb⟩
  have HT8 := hid hst
  have HI8 := hid (HI7.out.below hb HE.out)
  rw [GE.out]
  have hvl : (vsAns op n s f).length ≤ 150 := by
    unfold vsAns; split
    · simp
    · have h1 := vsOf_le (.cons op n s f .nil)
      have h2 := HX.out.2.2.2.2.2
      simp only [F.size] at h1
      omega
  have HVL := hid hvl
  clear hb HI7 q0 q1 q2 q3 hst hvl
  obtain ⟨⟨q0, q1, q2, q3⟩, _⟩ := blk4 HI8.out.1
  go_wp2_with fail
  refine (hSz op n s f p c fa _ HX.out.2.2.2.2.2 HI8.out.2.2.1 HX.out.2.1 HX.out.2.2.1 HX.out.2.2.2.2.1).mono ?_
  rintro e w9 ⟨rfl, hb⟩
  have HI9 := hid (HI8.out.below hb HE.out)
  have HT9 := hid (HT8.out.ext (Ext.of_below (S := fun _ => False) hb) (fun _ _ => id))
  rw [GE.out]
  clear hb HI8 HT8 q0 q1 q2 q3
  obtain ⟨⟨q0, q1, q2, q3⟩, _⟩ := blk4 HI9.out.1
  generalize hg4 : szAns op n s f = sz
  have G4 := hid hg4
  clear hg4
  go_wp2_with fail
  refine (or_new [er, es] 2 _ _ (by omega) rfl).mono ?_
  rintro e w10 ⟨rfl, hb⟩
  have HI10 := hid (HI9.out.below hb HE.out)
  have HT10 := hid (HT9.out.ext (Ext.of_below (S := fun _ => False) hb) (fun _ _ => id))
  clear hb HI9 HT9 q0 q1 q2 q3
  obtain ⟨⟨q0, q1, q2, q3⟩, _⟩ := blk4 HI10.out.1
  by_cases he : er = 0
  · subst he
    have hsm := small_of_errE GE.out
    have HSM := hid hsm
    clear hsm
    have hvs : vsAns op n s f = vsOf (.cons op n s f .nil) := by rw [vsAns, if_neg (by rw [GE.out]; simp)]
    have HVS := hid hvs
    obtain rfl : sz = ((f.size + 1 : Nat) : Int) := by rw [← G4.out, szAns, if_neg (by rw [GE.out]; simp)]
    clear hvs
    by_cases hs : es = 0
    · subst hs
      have hans : valAns L op n s f = (valE L op n s f, 0) := by rw [valAns, if_neg (by rw [GE.out]; simp), if_neg (by rw [GS.out]; simp)]
      obtain rfl : v2 = 0 := by rw [← G2.out, hans]
      have GV := hid (show valE L op n s f = v1 by rw [← G1.out, hans])
      rw [show orL [0, 0] = 0 from rfl]
      clear hans
      have HD := hid (HI10.out.ext ((Ext.refl (S := fun _ => False) w10).drew) HE.out)
      have HTD := hid (HT10.out.ext ((Ext.refl (S := fun _ => False) w10).drew) (fun _ _ => id))
      go_wp2_with fail
      go_region_held3 (fun w' => w'.cell? ⟨w3.heap.size, 0, none⟩ = some (.int .i64 op) ∧ w'.cell? ⟨w3.heap.size, 1, none⟩ = some (.int .i64 n) ∧ w'.cell? ⟨w3.heap.size, 2, none⟩ = some (.string s) ∧ w'.cell? ⟨w3.heap.size, 3, none⟩ = some (.slice p f.len c))
        (first
          | (go_keep; done)
          | exact ⟨E11.cell_some q0 id, E11.cell_some q1 id, E11.cell_some q2 id, E11.cell_some q3 id⟩
          | exact ⟨E12.cell_some q0 id, E12.cell_some q1 id, E12.cell_some q2 id, E12.cell_some q3 id⟩)
        (first
          | (go_at_call 16; refine (r_Table L lp lc _ HD.out.2.2.2.1 HL.out.2.1 HL.out.2.2.1 HL.out.1 HL.out.2.2.2).mono ?_; rintro e w11 ⟨rfl, hown, hb11⟩; have E11 := Ext.of_below (S := fun _ => False) hb11; have HI11 := hid (HD.out.ext E11 HE.out); have HT11 := hid (HTD.out.ext E11 (fun _ _ => id)); have HTab := hid hown; clear hown hb11)
          | (go_at_call 15; refine (r_ValueOf L _ (good_of_slErr _ _ GS.out) (f.size + 1) op n s f p c fa _ (by omega) HI11.out.2.2.1 HX.out.2.1 HX.out.2.2.1 HX.out.2.2.2.2.1 HSM.out HTab.out).mono ?_; rintro e w12 ⟨rfl, hb12⟩; have E12 := E11.trans (Ext.of_below (S := fun _ => False) hb12); have HI12 := hid (HI11.out.below hb12 HE.out); have HT12 := hid (HT11.out.ext (Ext.of_below (S := fun _ => False) hb12) (fun _ _ => id)); clear hb12))
      rw [GV.out]
      clear q0 q1 q2 q3 E11 E12 HI10 HI11 HT10 HT11 HD HTD HTab
      obtain ⟨⟨q0, q1, q2, q3⟩, _⟩ := blk4 HI12.out.1
      have hbox := hid (show ((w12.alloc (.cells #[.int .i64 op, .int .i64 n, .string s, .slice p f.len c] 28)).drew).heap[w12.heap.size]? = some (.cells #[.int .i64 op, .int .i64 n, .string s, .slice p f.len c] 28 (0, 0)) from heap_new w12 _)
      have EA := hid (((Ext.refl (S := fun _ => False) w12).alloc (.cells #[.int .i64 op, .int .i64 n, .string s, .slice p f.len c] 28)).drew)
      have HIA := hid (HI12.out.ext EA.out HE.out)
      have HTA := hid (HT12.out.ext EA.out (fun _ _ => id))
      go_wp2_with fail
      go_region_held3 (fun w' => w'.cell? ⟨w3.heap.size, 0, none⟩ = some (.int .i64 op) ∧ w'.cell? ⟨w3.heap.size, 1, none⟩ = some (.int .i64 n) ∧ w'.cell? ⟨w3.heap.size, 2, none⟩ = some (.string s) ∧ w'.cell? ⟨w3.heap.size, 3, none⟩ = some (.slice p f.len c))
        (first
          | (go_keep; done)
          | exact ⟨E13.cell_some q0 id, E13.cell_some q1 id, E13.cell_some q2 id, E13.cell_some q3 id⟩
          | exact ⟨E14.cell_some q0 id, E14.cell_some q1 id, E14.cell_some q2 id, E14.cell_some q3 id⟩)
        (first
          | (go_at_call 17; refine (r_VarsIn (F.cons op n s f .nil) (some ⟨w12.heap.size, 0, none⟩) 1 (w12.heap.size :: fa) _ (by have := HX.out.2.2.2.2.2; simp [F.size]; omega) (box_rd (c := c) hbox.out HIA.out.2.2.1 HX.out.2.1 HX.out.2.2.1) (by simp [F.len]) (by omega)).mono ?_; rintro e w13 ⟨⟨q13, c13, rfl, hst13, hc13, hm13, _⟩, hb13⟩; have E13 := EA.out.trans (Ext.of_below (S := fun _ => False) hb13); have HI13 := hid (HIA.out.below hb13 HE.out); have HT13 := hid (HTA.out.ext (Ext.of_below (S := fun _ => False) hb13) (fun _ _ => id)); have HS13 := hid hst13; have HM13 := hid hm13; clear hst13 hb13 hm13)
          | (go_at_call 18; refine (r_SizeIn op n s f p c fa _ (by have := HX.out.2.2.2.2.2; omega) HI13.out.2.2.1 HX.out.2.1 HX.out.2.2.1).mono ?_; rintro e w14 ⟨rfl, hb14⟩; have E14 := E13.trans (Ext.of_below (S := fun _ => False) hb14); have HI14 := hid (HI13.out.below hb14 HE.out); have HT14 := hid (HT13.out.ext (Ext.of_below (S := fun _ => False) hb14) (fun _ _ => id)); have HS14 := hid (HS13.out.ext (Ext.of_below (S := fun _ => False) hb14) (fun _ _ => id)); clear hb14))
      clear q0 q1 q2 q3 E13 E14 EA HIA HTA hbox HI12 HT12 HI13 HT13 HS13
      go_wp2_with fail
      refine (hCS L lp lc _ HI14.out.2.2.2.1 HL.out.1 HL.out.2.1 HL.out.2.2.1 HL.out.2.2.2).mono ?_
      rintro e w15 ⟨rfl, hb15⟩
      have HI15 := hid (HI14.out.below hb15 HE.out)
      have HT15 := hid (HT14.out.ext (Ext.of_below (S := fun _ => False) hb15) (fun _ _ => id))
      have HS15 := hid (HS14.out.ext (Ext.of_below (S := fun _ => False) hb15) (fun _ _ => id))
      rw [GS.out, HVS.out]
      have HT15' := hid (show StrsAt w15 vq (vsOf (.cons op n s f .nil)) from HVS.out ▸ HT15.out)
      clear hb15 HI14 HT14 HS14 HT15
      have hvl2 : (vsOf (.cons op n s f .nil)).length ≤ 9223372036854775807 := by have := HVL.out; rw [HVS.out] at this; omega
      have HV2 := hid hvl2
      clear hvl2
      go_wp2_with fail
      refine (equal_same (vsOf (.cons op n s f .nil)) vq q13 _ _ _ HT15'.out HS15.out HV2.out).mono ?_
      rintro e w16 ⟨rfl, hb16⟩
      have HB16 := hid (HI15.out.below hb16 HE.out).2.1
      clear hb16 HI15 HT15' HS15
      go_wp2_with fail
      refine (hV _).mono ?_
      rintro e w17 ⟨rfl, hb17⟩
      have HB17 := hid (HB16.out.trans (hb17.mono (by have := HB16.out.size; omega)))
      clear hb17
      go_wp2_with fail
      go_ret
      exact ⟨rfl, HB17.out⟩
    · have hans : valAns L op n s f = (0, es) := by rw [valAns, if_neg (by rw [GE.out]; simp), if_pos (by rw [GS.out]; exact hs), GS.out]
      obtain rfl : v2 = es := by rw [← G2.out, hans]
      obtain rfl : v1 = 0 := by rw [← G1.out, hans]
      have hor : orL [0, v2] = v2 := by simp [orL, hs]
      rw [hor]
      have hf2 : (v2 == 0) = false := by simpa using hs
      clear hans hor hs
      have hbox := hid (show ((w10.alloc (.cells #[.int .i64 op, .int .i64 n, .string s, .slice p f.len c] 28)).drew).heap[w10.heap.size]? = some (.cells #[.int .i64 op, .int .i64 n, .string s, .slice p f.len c] 28 (0, 0)) from heap_new w10 _)
      have EA := hid (((Ext.refl (S := fun _ => False) w10).alloc (.cells #[.int .i64 op, .int .i64 n, .string s, .slice p f.len c] 28)).drew)
      have HIA := hid (HI10.out.ext EA.out HE.out)
      have HTA := hid (HT10.out.ext EA.out (fun _ _ => id))
      go_wp2_with fail
      go_region_held3 (fun w' => w'.cell? ⟨w3.heap.size, 0, none⟩ = some (.int .i64 op) ∧ w'.cell? ⟨w3.heap.size, 1, none⟩ = some (.int .i64 n) ∧ w'.cell? ⟨w3.heap.size, 2, none⟩ = some (.string s) ∧ w'.cell? ⟨w3.heap.size, 3, none⟩ = some (.slice p f.len c))
        (first
          | (go_keep; done)
          | exact ⟨E13.cell_some q0 id, E13.cell_some q1 id, E13.cell_some q2 id, E13.cell_some q3 id⟩
          | exact ⟨E14.cell_some q0 id, E14.cell_some q1 id, E14.cell_some q2 id, E14.cell_some q3 id⟩)
        (first
          | (go_at_call 17; refine (r_VarsIn (F.cons op n s f .nil) (some ⟨w10.heap.size, 0, none⟩) 1 (w10.heap.size :: fa) _ (by have := HX.out.2.2.2.2.2; simp [F.size]; omega) (box_rd (c := c) hbox.out HIA.out.2.2.1 HX.out.2.1 HX.out.2.2.1) (by simp [F.len]) (by omega)).mono ?_; rintro e w13 ⟨⟨q13, c13, rfl, hst13, hc13, hm13, _⟩, hb13⟩; have E13 := EA.out.trans (Ext.of_below (S := fun _ => False) hb13); have HI13 := hid (HIA.out.below hb13 HE.out); have HT13 := hid (HTA.out.ext (Ext.of_below (S := fun _ => False) hb13) (fun _ _ => id)); have HS13 := hid hst13; have HM13 := hid hm13; clear hst13 hb13 hm13)
          | (go_at_call 18; refine (r_SizeIn op n s f p c fa _ (by have := HX.out.2.2.2.2.2; omega) HI13.out.2.2.1 HX.out.2.1 HX.out.2.2.1).mono ?_; rintro e w14 ⟨rfl, hb14⟩; have E14 := E13.trans (Ext.of_below (S := fun _ => False) hb14); have HI14 := hid (HI13.out.below hb14 HE.out); have HT14 := hid (HT13.out.ext (Ext.of_below (S := fun _ => False) hb14) (fun _ _ => id)); have HS14 := hid (HS13.out.ext (Ext.of_below (S := fun _ => False) hb14) (fun _ _ => id)); clear hb14))
      clear q0 q1 q2 q3 E13 E14 EA HIA HTA hbox HI10 HT10 HI13 HT13 HS13
      go_wp2_with fail
      refine (hCS L lp lc _ HI14.out.2.2.2.1 HL.out.1 HL.out.2.1 HL.out.2.2.1 HL.out.2.2.2).mono ?_
      rintro e w15 ⟨rfl, hb15⟩
      have HI15 := hid (HI14.out.below hb15 HE.out)
      have HT15 := hid (HT14.out.ext (Ext.of_below (S := fun _ => False) hb15) (fun _ _ => id))
      have HS15 := hid (HS14.out.ext (Ext.of_below (S := fun _ => False) hb15) (fun _ _ => id))
      rw [GS.out, HVS.out]
      have HT15' := hid (show StrsAt w15 vq (vsOf (.cons op n s f .nil)) from HVS.out ▸ HT15.out)
      clear hb15 HI14 HT14 HS14 HT15
      have hvl2 : (vsOf (.cons op n s f .nil)).length ≤ 9223372036854775807 := by have := HVL.out; rw [HVS.out] at this; omega
      have HV2 := hid hvl2
      clear hvl2
      go_wp2_with fail
      refine (equal_same (vsOf (.cons op n s f .nil)) vq q13 _ _ _ HT15'.out HS15.out HV2.out).mono ?_
      rintro e w16 ⟨rfl, hb16⟩
      have HB16 := hid (HI15.out.below hb16 HE.out).2.1
      clear hb16 HI15 HT15' HS15
      go_wp2_with fail
      refine (hV _).mono ?_
      rintro e w17 ⟨rfl, hb17⟩
      have HB17 := hid (HB16.out.trans (hb17.mono (by have := HB16.out.size; omega)))
      clear hb17
      go_wp2_with fail
      go_ret
      exact ⟨rfl, HB17.out⟩
  · have hans : valAns L op n s f = (0, er) := by rw [valAns, if_pos (by rw [GE.out]; exact he), GE.out]
    obtain rfl : v2 = er := by rw [← G2.out, hans]
    obtain rfl : v1 = 0 := by rw [← G1.out, hans]
    have hor : orL [v2, es] = v2 := by simp [orL, he]
    rw [hor]
    have hf2 : (v2 == 0) = false := by simpa using he
    have hvs : vsAns op n s f = [] := by rw [vsAns, if_pos (by rw [GE.out]; exact he)]
    obtain rfl : sz = 0 := by rw [← G4.out, szAns, if_pos (by rw [GE.out]; exact he)]
    have HT10' := hid (show StrsAt w10 vq [] from hvs ▸ HT10.out)
    have hv0 : (vsAns op n s f).length = 0 := by rw [hvs]; rfl
    rw [hv0]
    clear hans hor he HT10 hv0 HVL
    go_wp2_with fail
    refine (hCS L lp lc _ HI10.out.2.2.2.1 HL.out.1 HL.out.2.1 HL.out.2.2.1 HL.out.2.2.2).mono ?_
    rintro e w15 ⟨rfl, hb15⟩
    have HI15 := hid (HI10.out.below hb15 HE.out)
    have HT15 := hid (HT10'.out.ext (Ext.of_below (S := fun _ => False) hb15) (fun _ _ => id))
    rw [GS.out]
    clear hb15 HI10 HT10'
    go_wp2_with fail
    refine (equal_same [] vq none _ 0 _ HT15.out (.inl rfl) (by simp)).mono ?_
    rintro e w16 ⟨rfl, hb16⟩
    have HB16 := hid (HI15.out.below hb16 HE.out).2.1
    clear hb16 HI15 HT15
    go_wp2_with fail
    refine (hV _).mono ?_
    rintro e w17 ⟨rfl, hb17⟩
    have HB17 := hid (HB16.out.trans (hb17.mono (by have := HB16.out.size; omega)))
    clear hb17
    go_wp2_with fail
    go_ret
    exact ⟨rfl, HB17.out⟩
end Go.Proofs.YtkgciohebloffaaGreat
