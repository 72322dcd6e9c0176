/- Texts joined: Focus, Down. -/
import Derived.Test.YtkgciohebloffaaGreatJS03
/- A place within an expression: whatever is written there, the whole is an expression still. -/
namespace Go.Proofs.YtkgciohebloffaaGreat
open Go.RowKit

/-- A row of expressions, parted at one of them. -/
theorem RdV.split {w : World} : ∀ (k : Nat) {f : F} {xs : List Value} {fp : List Nat}, RdV w f xs fp → k < f.len →
    ∃ op n s a p c f1 fi f2 x1 x2, f.drop k = .cons op n s a (f.drop (k + 1)) ∧ xs = x1 ++ (.int .i64 op :: .int .i64 n :: .string s :: .slice p a.len c :: x2) ∧ x1.length = 4 * k ∧ fp = f1 ++ (fi ++ f2) ∧
      RdV w (f.take k) x1 f1 ∧ RdP w a p fi ∧ a.len ≤ c ∧ c ≤ 9223372036854775807 ∧ RdV w (f.drop (k + 1)) x2 f2
  | 0, .nil, _, _, _, hk => by simp [F.len] at hk
  | 0, .cons op n s a r, _, _, ⟨p, c, fa, fr, xr, rfl, rfl, h1, h2, hr, ha⟩, _ =>
    ⟨op, n, s, a, p, c, [], fa, fr, [], xr, by simp [F.drop], rfl, rfl, rfl, ⟨rfl, rfl⟩, ha, h1, h2, by simpa [F.drop] using hr⟩
  | _ + 1, .nil, _, _, _, hk => by simp [F.len] at hk
  | k + 1, .cons op n s a r, _, _, ⟨p, c, fa, fr, xr, rfl, rfl, h1, h2, hr, ha⟩, hk => by
    obtain ⟨op', n', s', a', p', c', f1, fi, f2, x1, x2, e1, rfl, e2, rfl, g1, g2, g3, g4, g5⟩ := RdV.split k hr (by simp [F.len] at hk; omega)
    exact ⟨op', n', s', a', p', c', fa ++ f1, fi, f2, _ :: _ :: _ :: _ :: x1, x2, e1, rfl, by simp [e2]; omega, by simp, ⟨p, c, fa, f1, x1, rfl, rfl, h1, h2, g1, ha⟩, g2, g3, g4, g5⟩

/-- The expression in the block eb, of m nodes at most, its arguments in blocks from base on. -/
def RootR (base : Nat) (w : World) (eb m : Nat) : Prop :=
  ∃ op n s a p c fp, w.cell? ⟨eb, 0, none⟩ = some (.int .i64 op) ∧ w.cell? ⟨eb, 1, none⟩ = some (.int .i64 n) ∧ w.cell? ⟨eb, 2, none⟩ = some (.string s) ∧ w.cell? ⟨eb, 3, none⟩ = some (.slice p a.len c) ∧
    RdP w a p fp ∧ a.len ≤ c ∧ c ≤ 9223372036854775807 ∧ (F.cons op n s a .nil).Fits ∧ (∀ b ∈ fp, base ≤ b) ∧ a.size + 1 ≤ m

/-- Whatever expression is put at ⟨bx, ox⟩ (what is there now has its arguments in fa), eb's is one still. -/
def Focus (sb base : Nat) (w : World) (eb bx ox : Nat) (fa : List Nat) (K : Nat) : Prop :=
  ∀ w' : World, (∀ b o, b < w.heap.size → b ∉ fa → ¬ (b = bx ∧ ox ≤ o ∧ o < ox + 4) → b ≠ sb → w'.cell? ⟨b, o, none⟩ = w.cell? ⟨b, o, none⟩) → (∀ b o, b < w.heap.size → b ≠ sb → w'.frozen? ⟨b, o, none⟩ = w.frozen? ⟨b, o, none⟩) →
    ∀ op n s a p c fp, w'.cell? ⟨bx, ox, none⟩ = some (.int .i64 op) → w'.cell? ⟨bx, ox + 1, none⟩ = some (.int .i64 n) → w'.cell? ⟨bx, ox + 2, none⟩ = some (.string s) → w'.cell? ⟨bx, ox + 3, none⟩ = some (.slice p a.len c) →
      RdP w' a p fp → a.len ≤ c → c ≤ 9223372036854775807 → (F.cons op n s a .nil).Fits → (∀ b ∈ fp, base ≤ b) → RootR base w' eb (K + a.size + 1)

theorem Focus.root (sb base : Nat) (w : World) (eb : Nat) (fa : List Nat) : Focus sb base w eb eb 0 fa 0 := by
  intro w' _ _ op n s a p c fp h0 h1 h2 h3 h4 h5 h6 h7 h8
  exact ⟨op, n, s, a, p, c, fp, h0, h1, h2, h3, h4, h5, h6, h7, h8, by omega⟩

theorem Focus.ext {sb base eb bx ox K : Nat} {fa : List Nat} {w w1 : World} (h : Focus sb base w eb bx ox fa K) (e : Ext (· = sb) w w1) : Focus sb base w1 eb bx ox fa K := by
  intro w' hc hfz
  refine h w' ?_ ?_
  · intro b o hb h1 h2 h3
    rw [hc b o (Nat.lt_of_lt_of_le hb e.size) h1 h2 h3]
    exact e.cell (p := ⟨b, o, none⟩) hb h3
  · intro b o hb hs
    rw [hfz b o (Nat.lt_of_lt_of_le hb e.size) hs]
    exact e.frozen (p := ⟨b, o, none⟩) hb hs

/-- From an expression to one of its arguments. -/
theorem Focus.step {sb base eb bx ox K : Nat} {fa : List Nat} {w : World} (h : Focus sb base w eb bx ox fa K)
    {op n : Int} {s : ByteArray} {a : F} {p : Option Addr} {c : Nat} (h0 : w.cell? ⟨bx, ox, none⟩ = some (.int .i64 op)) (h1 : w.cell? ⟨bx, ox + 1, none⟩ = some (.int .i64 n)) (h2 : w.cell? ⟨bx, ox + 2, none⟩ = some (.string s)) (h3 : w.cell? ⟨bx, ox + 3, none⟩ = some (.slice p a.len c))
    (hp : RdP w a p fa) (hac : a.len ≤ c) (hc : c ≤ 9223372036854775807) (hfit : (F.cons op n s a .nil).Fits) (hnd : fa.Nodup) (hbx : bx ∉ fa) (hbs : bx ≠ sb) (hfs : sb ∉ fa) (hge : ∀ b ∈ fa, base ≤ b)
    {i : Nat} (hi : i < a.len) :
    ∃ b' o' op' n' s' a' p' c' fi, p = some ⟨b', o', none⟩ ∧ w.cell? ⟨b', o' + 4 * i, none⟩ = some (.int .i64 op') ∧ w.cell? ⟨b', o' + 4 * i + 1, none⟩ = some (.int .i64 n') ∧ w.cell? ⟨b', o' + 4 * i + 2, none⟩ = some (.string s') ∧ w.cell? ⟨b', o' + 4 * i + 3, none⟩ = some (.slice p' a'.len c') ∧
      (∀ k, w.frozen? ⟨b', k, none⟩ = false) ∧ RdP w a' p' fi ∧ a'.len ≤ c' ∧ c' ≤ 9223372036854775807 ∧ (F.cons op' n' s' a' .nil).Fits ∧ fi.Nodup ∧ b' ∉ fi ∧ b' ≠ sb ∧ sb ∉ fi ∧ (∀ b ∈ fi, base ≤ b) ∧ b' < w.heap.size ∧
      ∃ K', K' + a'.size + 1 = K + a.size + 1 ∧ a'.size < a.size ∧ Focus sb base w eb b' (o' + 4 * i) fi K' := by
  rcases hp with ⟨rfl, _⟩ | ⟨b', o', xa, fb, rfl, rfl, hl, hcell, hfz, hx⟩
  · simp [F.len] at hi
  have hb' : b' < w.heap.size := RdP.head_lt hl hcell hx
  obtain ⟨op', n', s', a', p', c', f1, fi, f2, x1, x2, e1, rfl, e2, rfl, g1, g2, g3, g4, g5⟩ := hx.split i hi
  have hsz := F.size_split i a e1
  have cell : ∀ j v, (Value.int .i64 op' :: Value.int .i64 n' :: Value.string s' :: Value.slice p' a'.len c' :: x2)[j]? = some v → w.cell? ⟨b', o' + 4 * i + j, none⟩ = some v := by
    intro j v hv
    have := hcell (4 * i + j) v (by rw [List.getElem?_append_right (by omega), ← e2]; simpa using hv)
    rwa [← Nat.add_assoc] at this
  obtain ⟨hnb, hnd2⟩ := List.nodup_cons.1 hnd
  obtain ⟨n1, n23, n4⟩ := List.nodup_append.1 hnd2
  obtain ⟨n2, n3, n5⟩ := List.nodup_append.1 n23
  have hfd : (F.cons op' n' s' a' (a.drop (i + 1))).Fits := by rw [← e1]; exact F.fits_drop i hfit.2.2.2.1
  have fitT : (a.take i).Fits := F.fits_take i hfit.2.2.2.1
  refine ⟨b', o', op', n', s', a', p', c', fi, rfl, cell 0 _ rfl, cell 1 _ rfl, cell 2 _ rfl, cell 3 _ rfl, hfz, g2, g3, g4, ⟨hfd.1, hfd.2.1, hfd.2.2.1, hfd.2.2.2.1, trivial⟩, n2, fun h => hnb (by simp [h]), fun h => hfs (by simp [h]), fun h => hfs (by simp [h]), fun b hb => hge b (by simp [hb]), hb', K + 1 + (a.take i).size + (a.drop (i + 1)).size, by omega, by omega, ?_⟩
  intro w' hc' hfz' op2 n2' s2 a2 p2 c2 fp2 q0 q1 q2 q3 q4 q5 q6 q7 q8
  have keepx : ∀ j, w'.cell? ⟨bx, ox + j, none⟩ = w.cell? ⟨bx, ox + j, none⟩ := fun j =>
    hc' bx (ox + j) (by have := World.block_lt_of_cell? _ _ h0; exact this) (fun h => hbx (by simp [h])) (fun h => hbx (by simp [h.1])) hbs
  have keep : ∀ b, b ∈ f1 ++ f2 → ∀ o, w'.cell? ⟨b, o, none⟩ = w.cell? ⟨b, o, none⟩ ∧ w'.frozen? ⟨b, o, none⟩ = w.frozen? ⟨b, o, none⟩ := by
    intro b hb o
    have hlt : b < w.heap.size := by
      rcases List.mem_append.1 hb with hb | hb
      · exact g1.lt b hb
      · exact g5.lt b hb
    have hni : b ∉ fi := by
      rcases List.mem_append.1 hb with hb | hb
      · intro h; exact n4 b hb b (by simp [h]) rfl
      · intro h; exact n5 b h b hb rfl
    have hne : b ≠ b' := by
      rintro rfl
      rcases List.mem_append.1 hb with hb | hb
      · exact hnb (by simp [hb])
      · exact hnb (by simp [hb])
    have hbs' : b ≠ sb := by
      rintro rfl
      rcases List.mem_append.1 hb with hb | hb
      · exact hfs (by simp [hb])
      · exact hfs (by simp [hb])
    exact ⟨hc' b o hlt hni (fun h => hne h.1) hbs', hfz' b o hlt hbs'⟩
  have r1 : RdV w' (a.take i) x1 f1 := g1.agree fun b hb o => keep b (by simp [hb]) o
  have r5 : RdV w' (a.drop (i + 1)) x2 f2 := g5.agree fun b hb o => keep b (by simp [hb]) o
  have rr : RdV w' ((a.take i).app (.cons op2 n2' s2 a2 (a.drop (i + 1)))) (x1 ++ (.int .i64 op2 :: .int .i64 n2' :: .string s2 :: .slice p2 a2.len c2 :: x2)) (f1 ++ (fp2 ++ f2)) :=
    r1.app ⟨p2, c2, fp2, f2, x2, rfl, rfl, q5, q6, r5, q4⟩
  have hlen : ((a.take i).app (.cons op2 n2' s2 a2 (a.drop (i + 1)))).len = a.len := by
    rw [F.len_app, F.len_take, F.len, F.len_drop]; omega
  have hsize : ((a.take i).app (.cons op2 n2' s2 a2 (a.drop (i + 1)))).size = (a.take i).size + (a2.size + 1) + (a.drop (i + 1)).size := by
    rw [F.size_app, F.size]; omega
  have := h w' ?_ hfz' op n s ((a.take i).app (.cons op2 n2' s2 a2 (a.drop (i + 1)))) (some ⟨b', o', none⟩) c (b' :: (f1 ++ (fp2 ++ f2))) ?_ ?_ ?_ ?_ ?_ (by rw [hlen]; exact hac) hc ?_ ?_
  · rw [hsize] at this
    obtain ⟨u1, u2, u3, u4, u5, u6, u7, v0, v1, v2, v3, v4, v5, v6, v7, v8, v9⟩ := this
    exact ⟨u1, u2, u3, u4, u5, u6, u7, v0, v1, v2, v3, v4, v5, v6, v7, v8, by omega⟩
  · intro b o hb hnf hnx hns
    refine hc' b o hb (fun h => hnf (by simp [h])) (fun h => hnf (by simp [h.1])) hns
  · have := keepx 0; simp only [Nat.add_zero] at this; rw [this]; exact h0
  · rw [keepx 1]; exact h1
  · rw [keepx 2]; exact h2
  · rw [keepx 3, hlen]; exact h3
  · refine .inr ⟨b', o', _, _, rfl, rfl, by rw [hlen]; exact hl, ?_, fun k => (hfz' b' k hb' (fun h => hfs (by simp [h]))).trans (hfz k), rr⟩
    intro j v hv
    by_cases hj : j < 4 * i
    · rw [List.getElem?_append_left (by omega)] at hv
      have := hcell j v (by rw [List.getElem?_append_left (by omega)]; exact hv)
      rw [hc' b' (o' + j) hb' (fun h => hnb (by simp [h])) (by omega) (fun h => hfs (by simp [h]))]
      exact this
    · rw [List.getElem?_append_right (by omega), e2] at hv
      obtain ⟨t, rfl⟩ : ∃ t, j = 4 * i + t := ⟨j - 4 * i, by omega⟩
      rw [Nat.add_sub_cancel_left] at hv
      match t, hv with
      | 0, hv => simp at hv; subst hv; exact q0
      | 1, hv => simp at hv; subst hv; rw [← Nat.add_assoc]; exact q1
      | 2, hv => simp at hv; subst hv; rw [← Nat.add_assoc]; exact q2
      | 3, hv => simp at hv; subst hv; rw [← Nat.add_assoc]; exact q3
      | t + 4, hv =>
        have := cell (t + 4) v (by simpa using hv)
        rw [← Nat.add_assoc]
        rw [hc' b' (o' + 4 * i + (t + 4)) hb' (fun h => hnb (by simp [h])) (by omega) (fun h => hfs (by simp [h]))]
        exact this
  · exact ⟨hfit.1, hfit.2.1, hfit.2.2.1, F.fits_app fitT ⟨q7.1, q7.2.1, q7.2.2.1, q7.2.2.2.1, hfd.2.2.2.2⟩, trivial⟩
  · intro b hb
    rcases List.mem_cons.1 hb with rfl | hb
    · exact hge _ (by simp)
    · rcases List.mem_append.1 hb with hb | hb
      · exact hge _ (by simp [hb])
      · rcases List.mem_append.1 hb with hb | hb
        · exact q8 b hb
        · exact hge _ (by simp [hb])
end Go.Proofs.YtkgciohebloffaaGreat
/- What AnExpr does to the place that it has come to. -/
namespace Go.Proofs.YtkgciohebloffaaGreat
open Go.RowKit
section
variable {sb : Nat} {a : Option Addr} {len cap : Nat} {zs : List Int} {at_ : Int}

/-- An expression in new memory, its blocks none but new ones. -/
def GotExpr (m : Nat) (w w' : World) (e : Ending) : Prop :=
  ∃ (op n : Int) (s : ByteArray) (f : F) (p : Option Addr) (c : Nat) (fa : List Nat), e = .returned (.agg #[.int .i64 op, .int .i64 n, .string s, .slice p f.len c]) ∧ RdP w' f p fa ∧ f.len ≤ c ∧ c ≤ 9223372036854775807 ∧ (∀ b ∈ fa, w.heap.size ≤ b) ∧ (F.cons op n s f .nil).Fits ∧ f.size + 1 ≤ m
def SomeExpr (sb : Nat) (a : Option Addr) (len cap : Nat) (zs : List Int) (at_ : Int) (d : Int) (m : Nat) (w : World) (e : Ending) (w' : World) : Prop :=
  GotExpr m w w' e ∧ Went sb a len cap zs at_ d w w'

/-- What holds while AnExpr goes down: x is at ⟨bx, ox⟩, and of k nodes at most. -/
def Down (sb : Nat) (w : World) (rb eb m k bx ox : Nat) (wr : World) : Prop :=
  ∃ (op n : Int) (s : ByteArray) (f : F) (p : Option Addr) (c : Nat) (fa : List Nat) (K : Nat),
    (wr.cell? ⟨bx, ox, none⟩ = some (.int .i64 op) ∧ wr.cell? ⟨bx, ox + 1, none⟩ = some (.int .i64 n) ∧ wr.cell? ⟨bx, ox + 2, none⟩ = some (.string s) ∧ wr.cell? ⟨bx, ox + 3, none⟩ = some (.slice p f.len c)) ∧
    (∀ j, wr.frozen? ⟨bx, j, none⟩ = false) ∧ RdP wr f p fa ∧ f.len ≤ c ∧ c ≤ 9223372036854775807 ∧ (F.cons op n s f .nil).Fits ∧ fa.Nodup ∧ bx ∉ fa ∧ bx ≠ sb ∧ sb ∉ fa ∧ (∀ b ∈ fa, rb + 1 ≤ b) ∧ rb + 1 ≤ bx ∧ bx < wr.heap.size ∧
    K + f.size + 1 ≤ m ∧ f.size ≤ k ∧ Focus sb (rb + 1) wr eb bx ox fa K ∧
    wr.heap[rb]? = some (.cells #[.int .i64 0, .int .i64 0, .string ⟨#[]⟩, .slice none 0 0] 28 (0, 0)) ∧ Ext (· = sb) w wr

theorem Down.ext {w wr w' : World} {rb eb m k bx ox : Nat} (h : Down sb w rb eb m k bx ox wr) (e : Ext (· = sb) wr w') (hrb : rb ≠ sb) : Down sb w rb eb m k bx ox w' := by
  obtain ⟨op, n, s, f, p, c, fa, K, ⟨h0, h1, h2, h3⟩, h4, h5, h6, h7, h8, h9, h10, h11, h12, h13, h14, h15, h16, h17, h18, h19, h20⟩ := h
  exact ⟨op, n, s, f, p, c, fa, K, ⟨e.cell_some h0 h11, e.cell_some h1 h11, e.cell_some h2 h11, e.cell_some h3 h11⟩, fun j => (e.frozen (p := ⟨bx, j, none⟩) h15 h11).trans (h4 j), h5.ext e (fun b hb h => h12 (h ▸ hb)), h6, h7, h8, h9, h10, h11, h12, h13, h14, Nat.lt_of_lt_of_le h15 e.size, h16, h17, h18.ext e, e.heap h19 hrb, h20.trans e⟩

theorem Down.start {w w2 w3 : World} {rb : Nat} {op n : Int} {s : ByteArray} {f : F} {p : Option Addr} {c : Nat} {fa : List Nat} {m : Nat} (hrb : rb < w2.heap.size) (hrs : sb < rb)
    (h5 : RdP w2 f p fa) (h6 : f.len ≤ c) (h7 : c ≤ 9223372036854775807) (h9 : fa.Nodup) (hge : ∀ b ∈ fa, rb + 1 ≤ b) (h8 : (F.cons op n s f .nil).Fits) (h16 : f.size + 1 ≤ m)
    (hr : w2.heap[rb]? = some (.cells #[.int .i64 0, .int .i64 0, .string ⟨#[]⟩, .slice none 0 0] 28 (0, 0))) (e : Ext (· = sb) w w2)
    (e3 : Ext (· = sb) (w2.alloc (.cells #[.int .i64 op, .int .i64 n, .string s, .slice p f.len c] 28)) w3) :
    Down sb w rb w2.heap.size m m w2.heap.size 0 w3 := by
  have e0 : Ext (fun _ => False) w2 (w2.alloc (.cells #[.int .i64 op, .int .i64 n, .string s, .slice p f.len c] 28)) := (Ext.refl _).alloc _
  have ee : Ext (· = sb) w2 w3 := (e0.mono fun _ _ h => h.elim).trans e3
  have hb := blk4_new (S := (· = sb)) e3 (by omega)
  obtain ⟨⟨q0, q1, q2, q3⟩, _⟩ := blk4 hb
  refine ⟨op, n, s, f, p, c, fa, 0, ⟨q0, q1, q2, q3⟩, ?_, h5.ext ee (fun b hb h => by have := hge b hb; omega), h6, h7, h8, h9, fun h => by have := h5.lt _ h; omega, by omega, fun h => by have := hge _ h; omega, hge, by omega, ?_, by omega, by omega, Focus.root _ _ _ _ _, ee.heap hr (by omega), e.trans ee⟩
  · intro j; simp [World.frozen?, hb]
  · have := e3.size; simp at this; omega

/-- Something is written at x, and nowhere else. -/
theorem Down.store {w wr w' : World} {rb eb m' k' bx ox : Nat} (hrb : rb = w.heap.size)
    {K : Nat} {fa : List Nat} (h10 : bx ≠ sb) (h14 : rb + 1 ≤ bx) (h15 : bx < wr.heap.size) (h18 : Focus sb (rb + 1) wr eb bx ox fa K)
    (h19 : wr.heap[rb]? = some (.cells #[.int .i64 0, .int .i64 0, .string ⟨#[]⟩, .slice none 0 0] 28 (0, 0))) (h20 : Ext (· = sb) w wr)
    (hfz : ∀ j, wr.frozen? ⟨bx, j, none⟩ = false) (e : Ext (· = bx) wr w') (hc : ∀ o, ¬ (ox ≤ o ∧ o < ox + 4) → w'.cell? ⟨bx, o, none⟩ = wr.cell? ⟨bx, o, none⟩) (hf : ∀ o, w'.frozen? ⟨bx, o, none⟩ = wr.frozen? ⟨bx, o, none⟩)
    {op n : Int} {s : ByteArray} {f : F} {p : Option Addr} {c : Nat} {fb : List Nat} (h0 : w'.cell? ⟨bx, ox, none⟩ = some (.int .i64 op)) (h1 : w'.cell? ⟨bx, ox + 1, none⟩ = some (.int .i64 n)) (h2 : w'.cell? ⟨bx, ox + 2, none⟩ = some (.string s)) (h3 : w'.cell? ⟨bx, ox + 3, none⟩ = some (.slice p f.len c))
    (h5 : RdP w' f p fb) (h6 : f.len ≤ c) (h7 : c ≤ 9223372036854775807) (h8 : (F.cons op n s f .nil).Fits) (h9 : fb.Nodup) (h11 : bx ∉ fb) (h12 : sb ∉ fb) (h13 : ∀ b ∈ fb, rb + 1 ≤ b) (hm : K + f.size + 1 ≤ m') (hk : f.size ≤ k') (hsub : ∀ b ∈ fb, b ∈ fa ∨ wr.heap.size ≤ b) :
    Down sb w rb eb m' k' bx ox w' := by
  refine ⟨op, n, s, f, p, c, fb, K, ⟨h0, h1, h2, h3⟩, fun j => (hf j).trans (hfz j), h5, h6, h7, h8, h9, h11, h10, h12, h13, h14, Nat.lt_of_lt_of_le h15 e.size, hm, hk, ?_, e.heap h19 (by omega), ?_⟩
  · intro w2 hc2 hf2
    refine h18 w2 ?_ ?_
    · intro b o hb hn hx hs
      rw [hc2 b o (Nat.lt_of_lt_of_le hb e.size) ?_ hx hs]
      · by_cases hbx : b = bx
        · subst hbx; exact hc o (fun h => hx ⟨rfl, h⟩)
        · exact e.cell (p := ⟨b, o, none⟩) hb hbx
      · intro h
        rcases hsub b h with h | h
        · exact hn h
        · omega
    · intro b o hb hs
      rw [hf2 b o (Nat.lt_of_lt_of_le hb e.size) hs]
      by_cases hbx : b = bx
      · subst hbx; exact hf o
      · exact e.frozen (p := ⟨b, o, none⟩) hb hbx
  · exact h20.trans_new e (fun i hi h => by omega)

theorem cell_set_other {w : World} {b o o' : Nat} {v : Value} (h : o ≠ o') : (w.setCell ⟨b, o, none⟩ v).cell? ⟨b, o', none⟩ = w.cell? ⟨b, o', none⟩ :=
  World.cell?_setCell_other _ _ _ _ (by intro e; injection e with e1 e2 e3; exact h e2)
theorem cell_set_same {w : World} {b o : Nat} {u v : Value} (h : w.cell? ⟨b, o, none⟩ = some u) : (w.setCell ⟨b, o, none⟩ v).cell? ⟨b, o, none⟩ = some v := World.cell?_setCell_same _ _ _ h

/-- One of x's four cells is written. -/
theorem Down.set {w wr : World} {rb eb m k bx ox : Nat} (hrb : rb = w.heap.size) (h : Down sb w rb eb m k bx ox wr) :
    (∀ v : Int, -1099511627776 ≤ v → v ≤ 1099511627776 → Down sb w rb eb m k bx ox (wr.setCell ⟨bx, ox, none⟩ (.int .i64 v))) ∧
    (∀ v : Int, -1099511627776 ≤ v → v ≤ 1099511627776 → Down sb w rb eb m k bx ox (wr.setCell ⟨bx, ox + 1, none⟩ (.int .i64 v))) ∧
    (∀ v : ByteArray, v.size ≤ 200000 → Down sb w rb eb m k bx ox (wr.setCell ⟨bx, ox + 2, none⟩ (.string v))) ∧
    (∀ (p : Option Addr) (l c : Nat), wr.cell? ⟨bx, ox + 3, none⟩ = some (.slice p l c) → Down sb w rb eb m k bx ox (wr.setCell ⟨bx, ox + 3, none⟩ (.slice p (l / 2) c))) := by
  obtain ⟨op, n, s, f, p, c, fa, K, ⟨h0, h1, h2, h3⟩, h4, h5, h6, h7, h8, h9, h10, h11, h12, h13, h14, h15, h16, h17, h18, h19, h20⟩ := h
  have ext : ∀ j (u : Value), Ext (· = bx) wr (wr.setCell ⟨bx, ox + j, none⟩ u) := fun j u => (Ext.refl (S := (· = bx)) wr).setCell (p := ⟨bx, ox + j, none⟩) (.inl rfl) u
  have rd : ∀ j (u : Value), RdP (wr.setCell ⟨bx, ox + j, none⟩ u) f p fa := fun j u => h5.ext (ext j u) fun b hb e => h10 (e ▸ hb)
  have fz : ∀ j (u : Value) o, (wr.setCell ⟨bx, ox + j, none⟩ u).frozen? ⟨bx, o, none⟩ = wr.frozen? ⟨bx, o, none⟩ := fun j u o => World.frozen?_setCell _ _ _ _
  have other : ∀ j (u : Value), j < 4 → ∀ o, ¬ (ox ≤ o ∧ o < ox + 4) → (wr.setCell ⟨bx, ox + j, none⟩ u).cell? ⟨bx, o, none⟩ = wr.cell? ⟨bx, o, none⟩ := fun j u hj o ho => cell_set_other (by omega)
  refine ⟨fun v v1 v2 => ?_, fun v v1 v2 => ?_, fun v v1 => ?_, fun q l c' hq => ?_⟩
  · exact Down.store hrb h11 h14 h15 h18 h19 h20 h4 (ext 0 _) (other 0 _ (by omega)) (fz 0 _) (cell_set_same h0) ((cell_set_other (by omega)).trans h1) ((cell_set_other (by omega)).trans h2) ((cell_set_other (by omega)).trans h3) (rd 0 _) h6 h7 ⟨⟨v1, v2⟩, h8.2⟩ h9 h10 h12 h13 h16 h17 (fun b hb => .inl hb)
  · exact Down.store hrb h11 h14 h15 h18 h19 h20 h4 (ext 1 _) (other 1 _ (by omega)) (fz 1 _) ((cell_set_other (by omega)).trans h0) (cell_set_same h1) ((cell_set_other (by omega)).trans h2) ((cell_set_other (by omega)).trans h3) (rd 1 _) h6 h7 ⟨h8.1, ⟨v1, v2⟩, h8.2.2⟩ h9 h10 h12 h13 h16 h17 (fun b hb => .inl hb)
  · exact Down.store hrb h11 h14 h15 h18 h19 h20 h4 (ext 2 _) (other 2 _ (by omega)) (fz 2 _) ((cell_set_other (by omega)).trans h0) ((cell_set_other (by omega)).trans h1) (cell_set_same h2) ((cell_set_other (by omega)).trans h3) (rd 2 _) h6 h7 ⟨h8.1, h8.2.1, v1, h8.2.2.2⟩ h9 h10 h12 h13 h16 h17 (fun b hb => .inl hb)
  · rw [h3] at hq
    cases hq
    have ht : ∃ fb, RdP wr (f.take (f.len / 2)) p fb ∧ fb.Sublist fa := by
      rcases h5 with ⟨rfl, rfl⟩ | ⟨b, o, xa, fb, rfl, rfl, hl, hc, hf, hx⟩
      · exact ⟨[], .inl ⟨rfl, rfl⟩, List.Sublist.refl _⟩
      · obtain ⟨fq, g1, g2⟩ := hx.take (f.len / 2)
        by_cases hz : f.len / 2 = 0
        · rw [hz]; exact ⟨[], .inl ⟨by cases f <;> rfl, rfl⟩, List.nil_sublist _⟩
        · refine ⟨b :: fq, .inr ⟨b, o, _, fq, rfl, rfl, by rw [F.len_take]; omega, ?_, hf, g1⟩, List.Sublist.cons_cons _ g2⟩
          intro i v hv
          rw [List.getElem?_take] at hv
          split at hv
          · exact hc i v hv
          · cases hv
    obtain ⟨fb, g1, g2⟩ := ht
    have hl : (f.take (f.len / 2)).len = f.len / 2 := by rw [F.len_take]; omega
    have hz := F.size_take (f.len / 2) f
    refine Down.store (f := f.take (f.len / 2)) (fb := fb) hrb h11 h14 h15 h18 h19 h20 h4 (ext 3 _) (other 3 _ (by omega)) (fz 3 _) ((cell_set_other (by omega)).trans h0) ((cell_set_other (by omega)).trans h1) ((cell_set_other (by omega)).trans h2) ?_ (g1.ext (ext 3 _) fun b hb e => h10 (e ▸ g2.subset hb)) (by omega) h7 ⟨h8.1, h8.2.1, h8.2.2.1, F.fits_take _ h8.2.2.2.1, trivial⟩ (h9.sublist g2) (fun h => h10 (g2.subset h)) (fun h => h12 (g2.subset h)) (fun b hb => h13 b (g2.subset hb)) (by omega) (by omega) (fun b hb => .inl (g2.subset hb))
    rw [hl]; exact cell_set_same h3

/-- x is put into a new list, as the one operand of what stands at x then. -/
theorem Down.wrap {w wr : World} {rb eb m k bx ox : Nat} (hrb : rb = w.heap.size) (hsb : sb < w.heap.size) {op n : Int} {s : ByteArray} {p : Option Addr} {l c : Nat}
    (q0 : wr.cell? ⟨bx, ox, none⟩ = some (.int .i64 op)) (q1 : wr.cell? ⟨bx, ox + 1, none⟩ = some (.int .i64 n)) (q2 : wr.cell? ⟨bx, ox + 2, none⟩ = some (.string s)) (q3 : wr.cell? ⟨bx, ox + 3, none⟩ = some (.slice p l c)) (h : Down sb w rb eb m k bx ox wr) :
    Down sb w rb eb (m + 1) (k + 1) bx ox (((((wr.alloc (.cells #[.int .i64 op, .int .i64 n, .string s, .slice p l c] 28)).setCell ⟨bx, ox, none⟩ (.int .i64 8)).setCell ⟨bx, ox + 1, none⟩ (.int .i64 0)).setCell ⟨bx, ox + 2, none⟩ (.string ⟨#[]⟩)).setCell ⟨bx, ox + 3, none⟩ (.slice (some ⟨wr.heap.size, 0, none⟩) 1 1)) := by
  obtain ⟨op', n', s', f, p', c', fa, K, ⟨h0, h1, h2, h3⟩, h4, h5, h6, h7, h8, h9, h10, h11, h12, h13, h14, h15, h16, h17, h18, h19, h20⟩ := h
  rw [h0] at q0; rw [h1] at q1; rw [h2] at q2; rw [h3] at q3
  cases q0; cases q1; cases q2; cases q3
  have e0 : Ext (fun _ => False) wr (wr.alloc (.cells #[.int .i64 op, .int .i64 n, .string s, .slice p f.len c] 28)) := (Ext.refl _).alloc _
  have hn := heap_new wr (.cells #[.int .i64 op, .int .i64 n, .string s, .slice p f.len c] 28)
  generalize wr.alloc (.cells #[.int .i64 op, .int .i64 n, .string s, .slice p f.len c] 28) = wa at e0 hn ⊢
  have g0 := e0.cell_some h0 id
  have g1 := e0.cell_some h1 id
  have g2 := e0.cell_some h2 id
  have g3 := e0.cell_some h3 id
  have e1 : Ext (· = bx) wr ((((wa.setCell ⟨bx, ox, none⟩ (.int .i64 8)).setCell ⟨bx, ox + 1, none⟩ (.int .i64 0)).setCell ⟨bx, ox + 2, none⟩ (.string ⟨#[]⟩)).setCell ⟨bx, ox + 3, none⟩ (.slice (some ⟨wr.heap.size, 0, none⟩) 1 1)) :=
    ((((e0.mono (S' := (· = bx)) fun _ _ h => h.elim).setCell (p := ⟨bx, ox, none⟩) (.inl rfl) _).setCell (p := ⟨bx, ox + 1, none⟩) (.inl rfl) _).setCell (p := ⟨bx, ox + 2, none⟩) (.inl rfl) _).setCell (p := ⟨bx, ox + 3, none⟩) (.inl rfl) _
  have e2 : Ext (· = bx) wa ((((wa.setCell ⟨bx, ox, none⟩ (.int .i64 8)).setCell ⟨bx, ox + 1, none⟩ (.int .i64 0)).setCell ⟨bx, ox + 2, none⟩ (.string ⟨#[]⟩)).setCell ⟨bx, ox + 3, none⟩ (.slice (some ⟨wr.heap.size, 0, none⟩) 1 1)) :=
    ((((Ext.refl (S := (· = bx)) wa).setCell (p := ⟨bx, ox, none⟩) (.inl rfl) _).setCell (p := ⟨bx, ox + 1, none⟩) (.inl rfl) _).setCell (p := ⟨bx, ox + 2, none⟩) (.inl rfl) _).setCell (p := ⟨bx, ox + 3, none⟩) (.inl rfl) _
  have hlt := h5.lt
  have hnb := e2.heap hn (by omega)
  have hrd := h5.ext e1 fun b hb e => h10 (e ▸ hb)
  have hfz : ∀ o, ((((wa.setCell ⟨bx, ox, none⟩ (.int .i64 8)).setCell ⟨bx, ox + 1, none⟩ (.int .i64 0)).setCell ⟨bx, ox + 2, none⟩ (.string ⟨#[]⟩)).setCell ⟨bx, ox + 3, none⟩ (.slice (some ⟨wr.heap.size, 0, none⟩) 1 1)).frozen? ⟨bx, o, none⟩ = wr.frozen? ⟨bx, o, none⟩ := by
    intro o
    rw [World.frozen?_setCell, World.frozen?_setCell, World.frozen?_setCell, World.frozen?_setCell]
    exact e0.frozen (p := ⟨bx, o, none⟩) h15 id
  have hcc : ∀ o, ¬ (ox ≤ o ∧ o < ox + 4) → ((((wa.setCell ⟨bx, ox, none⟩ (.int .i64 8)).setCell ⟨bx, ox + 1, none⟩ (.int .i64 0)).setCell ⟨bx, ox + 2, none⟩ (.string ⟨#[]⟩)).setCell ⟨bx, ox + 3, none⟩ (.slice (some ⟨wr.heap.size, 0, none⟩) 1 1)).cell? ⟨bx, o, none⟩ = wr.cell? ⟨bx, o, none⟩ := by
    intro o ho
    rw [cell_set_other (by omega), cell_set_other (by omega), cell_set_other (by omega), cell_set_other (by omega)]
    exact e0.cell (p := ⟨bx, o, none⟩) h15 id
  refine Down.store (op := 8) (n := 0) (s := ⟨#[]⟩) (f := .cons op n s f .nil) (p := some ⟨wr.heap.size, 0, none⟩) (c := 1) (fb := wr.heap.size :: fa) hrb h11 h14 h15 h18 h19 h20 h4 e1 hcc hfz ?_ ?_ ?_ ?_ ?_ (by simp [F.len]) (by omega) ⟨by omega, by omega, by decide, h8, trivial⟩ ?_ ?_ ?_ ?_ (by simp only [F.size]; omega) (by simp only [F.size]; omega) ?_
  · rw [cell_set_other (by omega), cell_set_other (by omega), cell_set_other (by omega)]; exact cell_set_same g0
  · rw [cell_set_other (by omega), cell_set_other (by omega)]; exact cell_set_same ((cell_set_other (by omega)).trans g1)
  · rw [cell_set_other (by omega)]; exact cell_set_same ((cell_set_other (by omega)).trans ((cell_set_other (by omega)).trans g2))
  · exact cell_set_same ((cell_set_other (by omega)).trans ((cell_set_other (by omega)).trans ((cell_set_other (by omega)).trans g3)))
  · refine .inr ⟨wr.heap.size, 0, [.int .i64 op, .int .i64 n, .string s, .slice p f.len c], fa, rfl, rfl, by simp [F.len], ?_, ?_, ⟨p, c, fa, [], [], rfl, by simp, h6, h7, ⟨rfl, rfl⟩, hrd⟩⟩
    · intro i v hv
      rw [cell_of_row _ _ _ _ _ _ hnb]
      simpa using hv
    · intro j; simp [World.frozen?, hnb]
  · exact List.nodup_cons.2 ⟨fun h => by have := hlt _ h; omega, h9⟩
  · intro h; rcases List.mem_cons.1 h with h | h; omega; exact h10 h
  · intro h; rcases List.mem_cons.1 h with h | h
    · have := h20.size; omega
    · exact h12 h
  · intro b hb; rcases List.mem_cons.1 hb with rfl | h
    · omega
    · exact h13 b h
  · intro b hb; rcases List.mem_cons.1 hb with rfl | h
    · exact .inr (Nat.le_refl _)
    · exact .inl h

/-- From x to one of its arguments. -/
theorem Down.child {w wr : World} {rb eb m k bx ox : Nat} (h : Down sb w rb eb m k bx ox wr) {b o l c : Nat} (hq : wr.cell? ⟨bx, ox + 3, none⟩ = some (.slice (some ⟨b, o, none⟩) l c)) {i : Nat} (hi : i < l) :
    1 ≤ k ∧ Down sb w rb eb m (k - 1) b (o + i * 4) wr := by
  obtain ⟨op, n, s, f, p, c, fa, K, ⟨h0, h1, h2, h3⟩, h4, h5, h6, h7, h8, h9, h10, h11, h12, h13, h14, h15, h16, h17, h18, h19, h20⟩ := h
  rw [h3] at hq
  cases hq
  obtain ⟨b', o', op', n', s', a', p', c', fi, e, g0, g1, g2, g3, g4, g5, g6, g7, g8, g9, g10, g11, g12, g13, g14, K', g15, g16, g17⟩ := h18.step h0 h1 h2 h3 h5 h6 h7 h8 h9 h10 h11 h12 h13 hi
  cases e
  rw [Nat.mul_comm 4 i] at g0 g1 g2 g3 g17
  have hb : rb + 1 ≤ b := by
    rcases h5 with ⟨rfl, _⟩ | ⟨b', o', xa, fb, e, rfl, _, _, _, _⟩
    · simp [F.len] at hi
    · cases e; exact h13 _ (by simp)
  refine ⟨by omega, op', n', s', a', p', c', fi, K', ⟨g0, g1, g2, g3⟩, g4, g5, g6, g7, g8, g9, g10, g11, g12, g13, hb, g14, by omega, by omega, g17, h19, h20⟩

/-- The whole is an expression. -/
theorem Down.root {w wr : World} {rb eb m k bx ox : Nat} (hm : m ≤ 150) (h : Down sb w rb eb m k bx ox wr) :
    ∃ op n s f p c fp, (wr.cell? ⟨eb, 0, none⟩ = some (.int .i64 op) ∧ wr.cell? ⟨eb, 1, none⟩ = some (.int .i64 n) ∧ wr.cell? ⟨eb, 2, none⟩ = some (.string s) ∧ wr.cell? ⟨eb, 3, none⟩ = some (.slice p (F.len f) c)) ∧
      RdP wr f p fp ∧ f.len ≤ c ∧ c ≤ 9223372036854775807 ∧ (F.cons op n s f .nil).Fits ∧ (∀ b ∈ fp, rb + 1 ≤ b) ∧ f.size + 1 ≤ 150 := by
  obtain ⟨op, n, s, f, p, c, fa, K, ⟨h0, h1, h2, h3⟩, h4, h5, h6, h7, h8, h9, h10, h11, h12, h13, h14, h15, h16, h17, h18, h19, h20⟩ := h
  obtain ⟨op', n', s', f', p', c', fp, g0, g1, g2, g3, g4, g5, g6, g7, g8, g9⟩ := h18 wr (fun _ _ _ _ _ _ => rfl) (fun _ _ _ _ => rfl) op n s f p c fa h0 h1 h2 h3 h5 h6 h7 h8 h13
  exact ⟨op', n', s', f', p', c', fp, ⟨g0, g1, g2, g3⟩, g4, g5, g6, g7, g8, by omega⟩

/-- An expression in eb's block is handed back by rb's. -/
theorem root_end {w wf : World} {rb m : Nat} (hH : Str w sb a len cap zs at_) (hrb : rb = w.heap.size) (hm : m ≤ 150) {op n : Int} {s : ByteArray} {f : F} {p : Option Addr} {c : Nat} {fp : List Nat}
    (hp : RdP wf f p fp) (h1 : f.len ≤ c) (h2 : c ≤ 9223372036854775807) (h3 : (F.cons op n s f .nil).Fits) (h4 : ∀ b ∈ fp, rb + 1 ≤ b) (h5 : f.size + 1 ≤ m) (hw : Went sb a len cap zs at_ 2000 w wf) (v0 v1 v2 v3 : Value) :
    SomeExpr sb a len cap zs at_ 2000 150 w (.returned (.agg #[.int .i64 op, .int .i64 n, .string s, .slice p f.len c])) ((((wf.setCell ⟨rb, 0, none⟩ v0).setCell ⟨rb, 1, none⟩ v1).setCell ⟨rb, 2, none⟩ v2).setCell ⟨rb, 3, none⟩ v3) := by
  have ex : Ext (· = rb) wf ((((wf.setCell ⟨rb, 0, none⟩ v0).setCell ⟨rb, 1, none⟩ v1).setCell ⟨rb, 2, none⟩ v2).setCell ⟨rb, 3, none⟩ v3) := (Ext.refl (S := (· = rb)) wf).set4 (b := rb) (.inl rfl) _ _ _ _
  have hs := hH.size
  refine ⟨⟨op, n, s, f, p, c, fp, rfl, hp.ext ex (fun b hb h => by have := h4 b hb; omega), h1, h2, fun b hb => by have := h4 b hb; omega, h3, by omega⟩, ?_⟩
  obtain ⟨e, x, hx, hl⟩ := hw
  exact ⟨e.set4 (.inr (by omega)) _ _ _ _, x, hx.ext ex (by omega) (fun b hb h => by omega), hl⟩

/-- What the last lines of AnExpr want. -/
theorem Down.final {w wf : World} {eb m k bx ox : Nat} {at7 : Int} (hH : Str w sb a len cap zs at_) (hm : m ≤ 150) (h : Down sb w w.heap.size eb m k bx ox wf) (hs : Str wf sb a len cap zs at7) (hle : at7 ≤ at_ + 2000) :
    ∃ (op n : Int) (s : ByteArray) (p : Option Addr) (l c : Nat), (wf.cell? ⟨eb, 0, none⟩ = some (.int .i64 op) ∧ wf.cell? ⟨eb, 1, none⟩ = some (.int .i64 n) ∧ wf.cell? ⟨eb, 2, none⟩ = some (.string s) ∧ wf.cell? ⟨eb, 3, none⟩ = some (.slice p l c)) ∧
      (wf.cell? ⟨w.heap.size, 0, none⟩ = some (.int .i64 0) ∧ wf.cell? ⟨w.heap.size, 1, none⟩ = some (.int .i64 0) ∧ wf.cell? ⟨w.heap.size, 2, none⟩ = some (.string ⟨#[]⟩) ∧ wf.cell? ⟨w.heap.size, 3, none⟩ = some (.slice none 0 0)) ∧
      (wf.frozen? ⟨w.heap.size, 0, none⟩ = false ∧ wf.frozen? ⟨w.heap.size, 1, none⟩ = false ∧ wf.frozen? ⟨w.heap.size, 2, none⟩ = false ∧ wf.frozen? ⟨w.heap.size, 3, none⟩ = false) ∧
      ∀ v0 v1 v2 v3, SomeExpr sb a len cap zs at_ 2000 150 w (.returned (.agg #[.int .i64 op, .int .i64 n, .string s, .slice p l c])) ((((wf.setCell ⟨w.heap.size, 0, none⟩ v0).setCell ⟨w.heap.size, 1, none⟩ v1).setCell ⟨w.heap.size, 2, none⟩ v2).setCell ⟨w.heap.size, 3, none⟩ v3) := by
  have hrbe : wf.heap[w.heap.size]? = some (.cells #[.int .i64 0, .int .i64 0, .string ⟨#[]⟩, .slice none 0 0] 28 (0, 0)) ∧ Ext (· = sb) w wf := by
    obtain ⟨op, n, s, f, p, c, fa, K, _, h4, h5, h6, h7, h8, h9, h10, h11, h12, h13, h14, h15, h16, h17, h18, h19, h20⟩ := h
    exact ⟨h19, h20⟩
  obtain ⟨op, n, s, f, p, c, fp, hc, r1, r2, r3, r4, r5, r6⟩ := Down.root hm h
  obtain ⟨hu, hg⟩ := blk4 hrbe.1
  exact ⟨op, n, s, p, f.len, c, hc, hu, hg, fun v0 v1 v2 v3 => root_end hH rfl (m := 150) (by omega) r1 r2 r3 r4 r5 r6 ⟨hrbe.2, at7, hs, hle⟩ v0 v1 v2 v3⟩
end
end Go.Proofs.YtkgciohebloffaaGreat
