/- Texts joined: Focus. -/
import Derived.Test.YtckbhlnncokigaaGreatJV04
/- A place within an expression: whatever is written there, the whole is an expression still. -/
namespace Go.Proofs.YtckbhlnncokigaaGreat
open Go.RowKit

/-- A row of expressions, parted at one of them. -/
theorem RdV.split {w : World} : ∀ (k : Nat) {f : F} {xs : List Value} {fp : List Nat}, RdV w f xs fp → k < f.len →
    ∃ op n s a p c f1 fi f2 x1 x2, f.drop k = .cons op n s a (f.drop (k + 1)) ∧ xs = x1 ++ (.int .i64 op :: .int .i64 n :: .string s :: .slice p a.len c :: x2) ∧ x1.length = 4 * k ∧ fp = f1 ++ (fi ++ f2) ∧
      RdV w (f.take k) x1 f1 ∧ RdP w a p fi ∧ a.len ≤ c ∧ c ≤ 9223372036854775807 ∧ RdV w (f.drop (k + 1)) x2 f2
  | 0, .nil, _, _, _, hk => by simp [F.len] at hk
  | 0, .cons op n s a r, _, _, ⟨p, c, fa, fr, xr, rfl, rfl, h1, h2, hr, ha⟩, _ =>
    ⟨op, n, s, a, p, c, [], fa, fr, [], xr, by simp [F.drop], rfl, rfl, rfl, ⟨rfl, rfl⟩, ha, h1, h2, by simpa [F.drop] using hr⟩
  | _ + 1, .nil, _, _, _, hk => by simp [F.len] at hk
  | k + 1, .cons op n s a r, _, _, ⟨p, c, fa, fr, xr, rfl, rfl, h1, h2, hr, ha⟩, hk => by
    obtain ⟨op', n', s', a', p', c', f1, fi, f2, x1, x2, e1, rfl, e2, rfl, g1, g2, g3, g4, g5⟩ := RdV.split k hr (by simp [F.len] at hk; omega)
    exact ⟨op', n', s', a', p', c', fa ++ f1, fi, f2, _ :: _ :: _ :: _ :: x1, x2, e1, rfl, by simp [e2]; omega, by simp, ⟨p, c, fa, f1, x1, rfl, rfl, h1, h2, g1, ha⟩, g2, g3, g4, g5⟩

/-- The expression in the block eb, of m nodes at most, its arguments in blocks from base on. -/
def RootR (base : Nat) (w : World) (eb m : Nat) : Prop :=
  ∃ op n s a p c fp, w.cell? ⟨eb, 0, none⟩ = some (.int .i64 op) ∧ w.cell? ⟨eb, 1, none⟩ = some (.int .i64 n) ∧ w.cell? ⟨eb, 2, none⟩ = some (.string s) ∧ w.cell? ⟨eb, 3, none⟩ = some (.slice p a.len c) ∧
    RdP w a p fp ∧ a.len ≤ c ∧ c ≤ 9223372036854775807 ∧ (F.cons op n s a .nil).Fits ∧ (∀ b ∈ fp, base ≤ b) ∧ a.size + 1 ≤ m

/-- Whatever expression is put at ⟨bx, ox⟩ (what is there now has its arguments in fa), eb's is one still. -/
def Focus (sb base : Nat) (w : World) (eb bx ox : Nat) (fa : List Nat) (K : Nat) : Prop :=
  ∀ w' : World, (∀ b o, b < w.heap.size → b ∉ fa → ¬ (b = bx ∧ ox ≤ o ∧ o < ox + 4) → b ≠ sb → w'.cell? ⟨b, o, none⟩ = w.cell? ⟨b, o, none⟩) → (∀ b o, b < w.heap.size → b ≠ sb → w'.frozen? ⟨b, o, none⟩ = w.frozen? ⟨b, o, none⟩) →
    ∀ op n s a p c fp, w'.cell? ⟨bx, ox, none⟩ = some (.int .i64 op) → w'.cell? ⟨bx, ox + 1, none⟩ = some (.int .i64 n) → w'.cell? ⟨bx, ox + 2, none⟩ = some (.string s) → w'.cell? ⟨bx, ox + 3, none⟩ = some (.slice p a.len c) →
      RdP w' a p fp → a.len ≤ c → c ≤ 9223372036854775807 → (F.cons op n s a .nil).Fits → (∀ b ∈ fp, base ≤ b) → RootR base w' eb (K + a.size + 1)

theorem Focus.root (sb base : Nat) (w : World) (eb : Nat) (fa : List Nat) : Focus sb base w eb eb 0 fa 0 := by
  intro w' _ _ op n s a p c fp h0 h1 h2 h3 h4 h5 h6 h7 h8
  exact ⟨op, n, s, a, p, c, fp, h0, h1, h2, h3, h4, h5, h6, h7, h8, by omega⟩

theorem Focus.ext {sb base eb bx ox K : Nat} {fa : List Nat} {w w1 : World} (h : Focus sb base w eb bx ox fa K) (e : Ext (· = sb) w w1) : Focus sb base w1 eb bx ox fa K := by
  intro w' hc hfz
  refine h w' ?_ ?_
  · intro b o hb h1 h2 h3
    rw [hc b o (Nat.lt_of_lt_of_le hb e.size) h1 h2 h3]
    exact e.cell (p := ⟨b, o, none⟩) hb h3
  · intro b o hb hs
    rw [hfz b o (Nat.lt_of_lt_of_le hb e.size) hs]
    exact e.frozen (p := ⟨b, o, none⟩) hb hs

/-- From an expression to one of its arguments. -/
theorem Focus.step {sb base eb bx ox K : Nat} {fa : List Nat} {w : World} (h : Focus sb base w eb bx ox fa K)
    {op n : Int} {s : ByteArray} {a : F} {p : Option Addr} {c : Nat} (h0 : w.cell? ⟨bx, ox, none⟩ = some (.int .i64 op)) (h1 : w.cell? ⟨bx, ox + 1, none⟩ = some (.int .i64 n)) (h2 : w.cell? ⟨bx, ox + 2, none⟩ = some (.string s)) (h3 : w.cell? ⟨bx, ox + 3, none⟩ = some (.slice p a.len c))
    (hp : RdP w a p fa) (hac : a.len ≤ c) (hc : c ≤ 9223372036854775807) (hfit : (F.cons op n s a .nil).Fits) (hnd : fa.Nodup) (hbx : bx ∉ fa) (hbs : bx ≠ sb) (hfs : sb ∉ fa) (hge : ∀ b ∈ fa, base ≤ b)
    {i : Nat} (hi : i < a.len) :
    ∃ b' o' op' n' s' a' p' c' fi, p = some ⟨b', o', none⟩ ∧ w.cell? ⟨b', o' + 4 * i, none⟩ = some (.int .i64 op') ∧ w.cell? ⟨b', o' + 4 * i + 1, none⟩ = some (.int .i64 n') ∧ w.cell? ⟨b', o' + 4 * i + 2, none⟩ = some (.string s') ∧ w.cell? ⟨b', o' + 4 * i + 3, none⟩ = some (.slice p' a'.len c') ∧
      (∀ k, w.frozen? ⟨b', k, none⟩ = false) ∧ RdP w a' p' fi ∧ a'.len ≤ c' ∧ c' ≤ 9223372036854775807 ∧ (F.cons op' n' s' a' .nil).Fits ∧ fi.Nodup ∧ b' ∉ fi ∧ b' ≠ sb ∧ sb ∉ fi ∧ (∀ b ∈ fi, base ≤ b) ∧ b' < w.heap.size ∧
      ∃ K', K' + a'.size + 1 = K + a.size + 1 ∧ a'.size < a.size ∧ Focus sb base w eb b' (o' + 4 * i) fi K' := by
  rcases hp with ⟨rfl, _⟩ | ⟨b', o', xa, fb, rfl, rfl, hl, hcell, hfz, hx⟩
  · simp [F.len] at hi
  have hb' : b' < w.heap.size := RdP.head_lt hl hcell hx
  obtain ⟨op', n', s', a', p', c', f1, fi, f2, x1, x2, e1, rfl, e2, rfl, g1, g2, g3, g4, g5⟩ := hx.split i hi
  have hsz := F.size_split i a e1
  have cell : ∀ j v, (Value.int .i64 op' :: Value.int .i64 n' :: Value.string s' :: Value.slice p' a'.len c' :: x2)[j]? = some v → w.cell? ⟨b', o' + 4 * i + j, none⟩ = some v := by
    intro j v hv
    have := hcell (4 * i + j) v (by rw [List.getElem?_append_right (by omega), ← e2]; simpa using hv)
    rwa [← Nat.add_assoc] at this
  obtain ⟨hnb, hnd2⟩ := List.nodup_cons.1 hnd
  obtain ⟨n1, n23, n4⟩ := List.nodup_append.1 hnd2
  obtain ⟨n2, n3, n5⟩ := List.nodup_append.1 n23
  have hfd : (F.cons op' n' s' a' (a.drop (i + 1))).Fits := by rw [← e1]; exact F.fits_drop i hfit.2.2.2.1
  have fitT : (a.take i).Fits := F.fits_take i hfit.2.2.2.1
  refine ⟨b', o', op', n', s', a', p', c', fi, rfl, cell 0 _ rfl, cell 1 _ rfl, cell 2 _ rfl, cell 3 _ rfl, hfz, g2, g3, g4, ⟨hfd.1, hfd.2.1, hfd.2.2.1, hfd.2.2.2.1, trivial⟩, n2, fun h => hnb (by simp [h]), fun h => hfs (by simp [h]), fun h => hfs (by simp [h]), fun b hb => hge b (by simp [hb]), hb', K + 1 + (a.take i).size + (a.drop (i + 1)).size, by omega, by omega, ?_⟩
  intro w' hc' hfz' op2 n2' s2 a2 p2 c2 fp2 q0 q1 q2 q3 q4 q5 q6 q7 q8
  have keepx : ∀ j, w'.cell? ⟨bx, ox + j, none⟩ = w.cell? ⟨bx, ox + j, none⟩ := fun j =>
    hc' bx (ox + j) (by have := World.block_lt_of_cell? _ _ h0; exact this) (fun h => hbx (by simp [h])) (fun h => hbx (by simp [h.1])) hbs
  have keep : ∀ b, b ∈ f1 ++ f2 → ∀ o, w'.cell? ⟨b, o, none⟩ = w.cell? ⟨b, o, none⟩ ∧ w'.frozen? ⟨b, o, none⟩ = w.frozen? ⟨b, o, none⟩ := by
    intro b hb o
    have hlt : b < w.heap.size := by
      rcases List.mem_append.1 hb with hb | hb
      · exact g1.lt b hb
      · exact g5.lt b hb
    have hni : b ∉ fi := by
      rcases List.mem_append.1 hb with hb | hb
      · intro h; exact n4 b hb b (by simp [h]) rfl
      · intro h; exact n5 b h b hb rfl
    have hne : b ≠ b' := by
      rintro rfl
      rcases List.mem_append.1 hb with hb | hb
      · exact hnb (by simp [hb])
      · exact hnb (by simp [hb])
    have hbs' : b ≠ sb := by
      rintro rfl
      rcases List.mem_append.1 hb with hb | hb
      · exact hfs (by simp [hb])
      · exact hfs (by simp [hb])
    exact ⟨hc' b o hlt hni (fun h => hne h.1) hbs', hfz' b o hlt hbs'⟩
  have r1 : RdV w' (a.take i) x1 f1 := g1.agree fun b hb o => keep b (by simp [hb]) o
  have r5 : RdV w' (a.drop (i + 1)) x2 f2 := g5.agree fun b hb o => keep b (by simp [hb]) o
  have rr : RdV w' ((a.take i).app (.cons op2 n2' s2 a2 (a.drop (i + 1)))) (x1 ++ (.int .i64 op2 :: .int .i64 n2' :: .string s2 :: .slice p2 a2.len c2 :: x2)) (f1 ++ (fp2 ++ f2)) :=
    r1.app ⟨p2, c2, fp2, f2, x2, rfl, rfl, q5, q6, r5, q4⟩
  have hlen : ((a.take i).app (.cons op2 n2' s2 a2 (a.drop (i + 1)))).len = a.len := by
    rw [F.len_app, F.len_take, F.len, F.len_drop]; omega
  have hsize : ((a.take i).app (.cons op2 n2' s2 a2 (a.drop (i + 1)))).size = (a.take i).size + (a2.size + 1) + (a.drop (i + 1)).size := by
    rw [F.size_app, F.size]; omega
  have := h w' ?_ hfz' op n s ((a.take i).app (.cons op2 n2' s2 a2 (a.drop (i + 1)))) (some ⟨b', o', none⟩) c (b' :: (f1 ++ (fp2 ++ f2))) ?_ ?_ ?_ ?_ ?_ (by rw [hlen]; exact hac) hc ?_ ?_
  · rw [hsize] at this
    obtain ⟨u1, u2, u3, u4, u5, u6, u7, v0, v1, v2, v3, v4, v5, v6, v7, v8, v9⟩ := this
    exact ⟨u1, u2, u3, u4, u5, u6, u7, v0, v1, v2, v3, v4, v5, v6, v7, v8, by omega⟩
  · intro b o hb hnf hnx hns
    refine hc' b o hb (fun h => hnf (by simp [h])) (fun h => hnf (by simp [h.1])) hns
  · have := keepx 0; simp only [Nat.add_zero] at this; rw [this]; exact h0
  · rw [keepx 1]; exact h1
  · rw [keepx 2]; exact h2
  · rw [keepx 3, hlen]; exact h3
  · refine .inr ⟨b', o', _, _, rfl, rfl, by rw [hlen]; exact hl, ?_, fun k => (hfz' b' k hb' (fun h => hfs (by simp [h]))).trans (hfz k), rr⟩
    intro j v hv
    by_cases hj : j < 4 * i
    · rw [List.getElem?_append_left (by omega)] at hv
      have := hcell j v (by rw [List.getElem?_append_left (by omega)]; exact hv)
      rw [hc' b' (o' + j) hb' (fun h => hnb (by simp [h])) (by omega) (fun h => hfs (by simp [h]))]
      exact this
    · rw [List.getElem?_append_right (by omega), e2] at hv
      obtain ⟨t, rfl⟩ : ∃ t, j = 4 * i + t := ⟨j - 4 * i, by omega⟩
      rw [Nat.add_sub_cancel_left] at hv
      match t, hv with
      | 0, hv => simp at hv; subst hv; exact q0
      | 1, hv => simp at hv; subst hv; rw [← Nat.add_assoc]; exact q1
      | 2, hv => simp at hv; subst hv; rw [← Nat.add_assoc]; exact q2
      | 3, hv => simp at hv; subst hv; rw [← Nat.add_assoc]; exact q3
      | t + 4, hv =>
        have := cell (t + 4) v (by simpa using hv)
        rw [← Nat.add_assoc]
        rw [hc' b' (o' + 4 * i + (t + 4)) hb' (fun h => hnb (by simp [h])) (by omega) (fun h => hfs (by simp [h]))]
        exact this
  · exact ⟨hfit.1, hfit.2.1, hfit.2.2.1, F.fits_app fitT ⟨q7.1, q7.2.1, q7.2.2.1, q7.2.2.2.1, hfd.2.2.2.2⟩, trivial⟩
  · intro b hb
    rcases List.mem_cons.1 hb with rfl | hb
    · exact hge _ (by simp)
    · rcases List.mem_append.1 hb with hb | hb
      · exact hge _ (by simp [hb])
      · rcases List.mem_append.1 hb with hb | hb
        · exact q8 b hb
        · exact hge _ (by simp [hb])
end Go.Proofs.YtckbhlnncokigaaGreat
