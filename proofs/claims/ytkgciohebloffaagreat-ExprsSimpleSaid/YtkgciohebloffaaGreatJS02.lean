/- Texts joined: Odd, Rep. -/
import Derived.Test.YtkgciohebloffaaGreatJS01
/- The stream's choices: Odd and Leaf. -/
namespace Go.Proofs.YtkgciohebloffaaGreat
open Go.RowKit
section
variable {sb : Nat} {a : Option Addr} {len cap : Nat} {zs : List Int} {at_ : Int}
set_option maxHeartbeats 400000 in
theorem odd_any (lo hi : Int) (w : World) (h : Str w sb a len cap zs at_) (hat : at_ ≤ 100000000000) (hlo : 0 ≤ lo) (hl : lo ≤ hi) (hhi : hi ≤ 1000000) :
    Calls Tryz.prog 50 #[.pointer (some ⟨sb, 0, none⟩), .int .i64 lo, .int .i64 hi] w (SomeInt sb a len cap zs at_ 2 (fun r => -1099511627776 ≤ r ∧ r ≤ 1099511627776) w) := by
  have H := hid h
  have HS := h.size
  clear h
  go_enter Tryz.func50, Tryz.ntmps50
  go_wp2_with fail
  refine (flip_any 12 _ H.out (by omega) (by omega) (by omega)).mono ?_
  rintro e w' ⟨⟨r, rfl⟩, hw⟩
  have HW := hid hw
  have hz : w.heap.size ≤ w'.heap.size := hw.ext.size
  clear hw
  obtain ⟨at1, h1, hle⟩ := HW.out.2
  have H1 := hid h1
  clear h1
  cases r
  · go_wp2_with fail
    refine (range_any lo hi _ H1.out (by omega) (by omega) hl (by omega)).mono ?_
    rintro e w2 ⟨⟨r, hr, rfl⟩, hw2⟩
    have HW2 := hid hw2
    clear hw2
    go_wp2_with fail
    go_ret
    exact ⟨⟨_, ⟨by omega, by omega⟩, rfl⟩, Went.trans HW.out.1 hle HW2.out trivial⟩
  · go_wp2_with fail
    refine (pick_new 6 [lo - 1, hi + 1, lo, hi, -1099511627776, 1099511627776] _ _ H1.out (by omega) rfl (by omega) (by omega)).mono ?_
    rintro e w2 ⟨⟨r, hr, rfl⟩, hw2⟩
    have HW2 := hid hw2
    clear hw2
    go_wp2_with fail
    go_ret
    refine ⟨⟨_, ?_, rfl⟩, Went.trans HW.out.1 hle HW2.out trivial⟩
    simp at hr
    omega

/-- A number or a variable, as Leaf makes it. -/
def LeafOk (op n : Int) (name : ByteArray) : Prop := (op = 1 ∧ 0 ≤ n ∧ n ≤ 999 ∧ name = ⟨#[]⟩) ∨ (op = 2 ∧ n = 0 ∧ ∃ c : UInt8, name = ⟨#[c]⟩ ∧ 120 ≤ c ∧ c ≤ 122)
def SomeLeaf (sb : Nat) (a : Option Addr) (len cap : Nat) (zs : List Int) (at_ d : Int) (w : World) (e : Ending) (w' : World) : Prop :=
  (∃ op n name, LeafOk op n name ∧ e = .returned (.agg #[.int .i64 op, .int .i64 n, .string name, .slice none 0 0])) ∧ Went sb a len cap zs at_ d w w'

set_option maxHeartbeats 400000 in
theorem leaf_any (w : World) (h : Str w sb a len cap zs at_) (hat : at_ ≤ 100000000000) :
    Calls Tryz.prog 97 #[.pointer (some ⟨sb, 0, none⟩)] w (SomeLeaf sb a len cap zs at_ 2 w) := by
  have H := hid h
  have HS := h.size
  clear h
  go_enter Tryz.func97, Tryz.ntmps97
  go_wp2_with fail
  refine (flip_any 2 _ (H.out.alloc _) (by omega) (by omega) (by omega)).mono ?_
  rintro e w' ⟨⟨r, rfl⟩, hw⟩
  have hb := hw.ext.heap (heap_new w _) (by omega)
  obtain ⟨⟨q0, q1, q2, q3⟩, f0, f1, f2, f3⟩ := blk4 hb
  have HB := hid hb
  clear hb
  have HW := hid hw
  have hz : w.heap.size + 1 ≤ w'.heap.size := by have := hw.ext.size; simpa using this
  clear hw
  obtain ⟨at1, h1, hle⟩ := HW.out.2
  have H1 := hid h1
  clear h1
  cases r
  · go_wp2_with fail
    refine (some_new 4 [⟨#[120]⟩, ⟨#[121]⟩, ⟨#[120]⟩, ⟨#[122]⟩] _ _ H1.out (by omega) rfl (by omega) (by omega)).mono ?_
    rintro e w2 ⟨⟨r, hr, rfl⟩, hw2⟩
    have hb := hw2.ext.heap HB.out (by omega)
    obtain ⟨⟨q0', q1', q2', q3'⟩, f0', f1', f2', f3'⟩ := blk4 hb
    clear hb q0 q1 q2 q3 f0 f1 f2 f3
    have HW2 := hid hw2
    have hz2 : w.heap.size + 1 ≤ w2.heap.size := Nat.le_trans hz hw2.ext.size
    clear hw2
    go_wp2_with fail
    refine bodyPost_ret (v := .agg #[.int .i64 2, .int .i64 0, .string r, .slice none 0 0]) (by simp [results, Tryz.results97, go_sem, q0', q1', q2', q3']) rfl ⟨⟨2, 0, r, .inr ⟨rfl, rfl, ?_⟩, rfl⟩, ?_⟩
    · simp at hr
      rcases hr with rfl | rfl | rfl | rfl
      · exact ⟨120, rfl, by decide, by decide⟩
      · exact ⟨121, rfl, by decide, by decide⟩
      · exact ⟨120, rfl, by decide, by decide⟩
      · exact ⟨122, rfl, by decide, by decide⟩
    · have HT : Went sb a len cap zs at_ 2 w w2 := Went.trans (((Ext.refl w).alloc _).trans HW.out.1) hle HW2.out trivial
      exact (((HT.setCell (p := ⟨_, 0, none⟩) (Nat.le_refl _) H.out _).setCell (p := ⟨_, 1, none⟩) (Nat.le_refl _) H.out _).setCell (p := ⟨_, 2, none⟩) (Nat.le_refl _) H.out _).setCell (p := ⟨_, 3, none⟩) (Nat.le_refl _) H.out _
  · go_wp2_with fail
    refine (pick_new 5 [0, 1, 2, 5, 999] _ _ H1.out (by omega) rfl (by omega) (by omega)).mono ?_
    rintro e w2 ⟨⟨r, hr, rfl⟩, hw2⟩
    have hb := hw2.ext.heap HB.out (by omega)
    obtain ⟨⟨q0', q1', q2', q3'⟩, f0', f1', f2', f3'⟩ := blk4 hb
    clear hb q0 q1 q2 q3 f0 f1 f2 f3
    have HW2 := hid hw2
    have hz2 : w.heap.size + 1 ≤ w2.heap.size := Nat.le_trans hz hw2.ext.size
    clear hw2
    go_wp2_with fail
    refine bodyPost_ret (v := .agg #[.int .i64 1, .int .i64 r, .string ⟨#[]⟩, .slice none 0 0]) (by simp [results, Tryz.results97, go_sem, q0', q1', q2', q3']) rfl ⟨⟨1, r, ⟨#[]⟩, .inl ⟨rfl, ?_, ?_, rfl⟩, rfl⟩, ?_⟩
    · simp at hr; omega
    · simp at hr; omega
    · have HT : Went sb a len cap zs at_ 2 w w2 := Went.trans (((Ext.refl w).alloc _).trans HW.out.1) hle HW2.out trivial
      exact (((HT.setCell (p := ⟨_, 0, none⟩) (Nat.le_refl _) H.out _).setCell (p := ⟨_, 1, none⟩) (Nat.le_refl _) H.out _).setCell (p := ⟨_, 2, none⟩) (Nat.le_refl _) H.out _).setCell (p := ⟨_, 3, none⟩) (Nat.le_refl _) H.out _
end
end Go.Proofs.YtkgciohebloffaaGreat
/- Expressions as plain data (a forest: first argument, next sibling), and how they lie in memory. -/
namespace Go.Proofs.YtkgciohebloffaaGreat
open Go.RowKit

/-- Expressions in a row: each has an operator, a number, a name, its arguments; then the next one. -/
inductive F where
  | nil : F
  | cons : Int → Int → ByteArray → F → F → F

namespace F
def len : F → Nat
  | nil => 0
  | cons _ _ _ _ r => r.len + 1
def size : F → Nat
  | nil => 0
  | cons _ _ _ a r => a.size + r.size + 1
def depth : F → Nat
  | nil => 0
  | cons _ _ _ a r => max (a.depth + 1) r.depth
def app : F → F → F
  | nil, g => g
  | cons op n s a r, g => cons op n s a (r.app g)
def drop : Nat → F → F
  | 0, f => f
  | _ + 1, nil => nil
  | k + 1, cons _ _ _ _ r => r.drop k
def take : Nat → F → F
  | 0, _ => nil
  | _ + 1, nil => nil
  | k + 1, cons op n s a r => cons op n s a (r.take k)
/-- Numbers and names are of a size that a draw can have. -/
def Fits : F → Prop
  | nil => True
  | cons op n s a r => (-1099511627776 ≤ op ∧ op ≤ 1099511627776) ∧ (-1099511627776 ≤ n ∧ n ≤ 1099511627776) ∧ s.size ≤ 200000 ∧ a.Fits ∧ r.Fits

theorem len_app : ∀ f g : F, (f.app g).len = f.len + g.len
  | nil, g => by simp [app, len]
  | cons _ _ _ _ r, g => by simp [app, len, len_app r g]; omega
theorem size_app : ∀ f g : F, (f.app g).size = f.size + g.size
  | nil, g => by simp [app, size]
  | cons _ _ _ _ r, g => by simp [app, size, size_app r g]; omega
theorem len_le_size : ∀ f : F, f.len ≤ f.size
  | nil => by simp [len, size]
  | cons _ _ _ a r => by simp [len, size]; have := len_le_size r; omega
theorem depth_le_size : ∀ f : F, f.depth ≤ f.size
  | nil => by simp [depth, size]
  | cons _ _ _ a r => by simp [depth, size]; have := depth_le_size a; have := depth_le_size r; omega
theorem fits_app : ∀ {f g : F}, f.Fits → g.Fits → (f.app g).Fits
  | nil, _, _, h => h
  | cons _ _ _ _ _, _, ⟨h1, h2, h3, h4, h5⟩, h => ⟨h1, h2, h3, h4, fits_app h5 h⟩
theorem eq_nil_of_len {f : F} (h : f.len = 0) : f = nil := by cases f <;> simp_all [len]
theorem len_drop : ∀ (k : Nat) (f : F), (f.drop k).len = f.len - k
  | 0, f => by simp [drop]
  | _ + 1, nil => by simp [drop, len]
  | k + 1, cons _ _ _ _ r => by simp [drop, len, len_drop k r]
theorem drop_nil : ∀ k, drop k nil = nil | 0 => rfl | _ + 1 => rfl
theorem drop_succ : ∀ (k : Nat) (f : F) {op n s a r}, f.drop k = cons op n s a r → f.drop (k + 1) = r
  | 0, _, _, _, _, _, _, h => by simp only [drop] at h; subst h; rfl
  | _ + 1, nil, _, _, _, _, _, h => by simp [drop] at h
  | k + 1, cons _ _ _ _ r, _, _, _, _, _, h => drop_succ k r h
theorem drop_cons {f : F} {k : Nat} (h : k < f.len) : ∃ op n s a, f.drop k = cons op n s a (f.drop (k + 1)) := by
  cases e : f.drop k with
  | nil => have := len_drop k f; rw [e] at this; simp [len] at this; omega
  | cons op n s a r => exact ⟨op, n, s, a, by rw [drop_succ k f e]⟩
theorem size_drop : ∀ (k : Nat) (f : F), (f.drop k).size ≤ f.size
  | 0, _ => Nat.le_refl _
  | _ + 1, nil => Nat.le_refl _
  | k + 1, cons _ _ _ a r => by simp only [drop, size]; have := size_drop k r; omega
theorem size_take : ∀ (k : Nat) (f : F), (f.take k).size ≤ f.size
  | 0, _ => by simp [take, size]
  | _ + 1, nil => Nat.le_refl _
  | k + 1, cons _ _ _ a r => by simp only [take, size]; have := size_take k r; omega
theorem len_take : ∀ (k : Nat) (f : F), (f.take k).len = min k f.len
  | 0, _ => by simp [take, len]
  | _ + 1, nil => by simp [take, len]
  | k + 1, cons _ _ _ a r => by simp only [take, len]; have := len_take k r; omega
theorem fits_drop : ∀ (k : Nat) {f : F}, f.Fits → (f.drop k).Fits
  | 0, _, h => h
  | _ + 1, nil, h => h
  | k + 1, cons _ _ _ _ _, h => fits_drop k h.2.2.2.2
theorem fits_take : ∀ (k : Nat) {f : F}, f.Fits → (f.take k).Fits
  | 0, _, _ => trivial
  | _ + 1, nil, h => h
  | k + 1, cons _ _ _ _ _, h => ⟨h.1, h.2.1, h.2.2.1, h.2.2.2.1, fits_take k h.2.2.2.2⟩
end F

theorem F.size_split : ∀ (k : Nat) (f : F) {op n s a}, f.drop k = .cons op n s a (f.drop (k + 1)) → f.size = (f.take k).size + (a.size + 1) + (f.drop (k + 1)).size
  | 0, .nil, _, _, _, _, h => by simp [F.drop] at h
  | 0, .cons _ _ _ _ r, _, _, _, _, h => by simp only [F.drop, F.cons.injEq] at h; obtain ⟨rfl, rfl, rfl, rfl, _⟩ := h; simp [F.size, F.take, F.drop]; omega
  | _ + 1, .nil, _, _, _, _, h => by simp [F.drop] at h
  | k + 1, .cons _ _ _ a' r, _, _, _, _, h => by
    have := F.size_split k r h
    simp only [F.size, F.take, F.drop] at *
    omega

/-- The values xs are those of the expressions f in memory w, whose arguments lie in the blocks fp. -/
def RdV (w : World) : F → List Value → List Nat → Prop
  | .nil, xs, fp => xs = [] ∧ fp = []
  | .cons op n s a r, xs, fp => ∃ p c fa fr xr, xs = .int .i64 op :: .int .i64 n :: .string s :: .slice p a.len c :: xr ∧ fp = fa ++ fr ∧ a.len ≤ c ∧ c ≤ 9223372036854775807 ∧ RdV w r xr fr ∧
      ((a = .nil ∧ fa = []) ∨ ∃ b o xa fb, p = some ⟨b, o, none⟩ ∧ fa = b :: fb ∧ 0 < a.len ∧ (∀ i v, xa[i]? = some v → w.cell? ⟨b, o + i, none⟩ = some v) ∧ (∀ k, w.frozen? ⟨b, k, none⟩ = false) ∧ RdV w a xa fb)

/-- A slice of expressions: a, at p. -/
def RdP (w : World) (a : F) (p : Option Addr) (fa : List Nat) : Prop :=
  (a = .nil ∧ fa = []) ∨ ∃ b o xa fb, p = some ⟨b, o, none⟩ ∧ fa = b :: fb ∧ 0 < a.len ∧ (∀ i v, xa[i]? = some v → w.cell? ⟨b, o + i, none⟩ = some v) ∧ (∀ k, w.frozen? ⟨b, k, none⟩ = false) ∧ RdV w a xa fb

theorem RdV.cons_iff {w : World} {op n : Int} {s : ByteArray} {a r : F} {xs : List Value} {fp : List Nat} :
    RdV w (.cons op n s a r) xs fp ↔ ∃ p c fa fr xr, xs = .int .i64 op :: .int .i64 n :: .string s :: .slice p a.len c :: xr ∧ fp = fa ++ fr ∧ a.len ≤ c ∧ c ≤ 9223372036854775807 ∧ RdV w r xr fr ∧ RdP w a p fa := Iff.rfl

theorem RdV.length {w : World} : ∀ {f : F} {xs : List Value} {fp : List Nat}, RdV w f xs fp → xs.length = 4 * f.len
  | .nil, _, _, ⟨rfl, _⟩ => rfl
  | .cons _ _ _ _ r, _, _, ⟨_, _, _, _, _, rfl, _, _, _, h, _⟩ => by simp [F.len, RdV.length h]; omega

theorem RdP.head_lt {w : World} {a : F} {b o : Nat} {xa : List Value} {fb : List Nat} (h0 : 0 < a.len) (hc : ∀ i v, xa[i]? = some v → w.cell? ⟨b, o + i, none⟩ = some v) (hx : RdV w a xa fb) : b < w.heap.size := by
  have hl := RdV.length hx
  have : xa[0]? = some (xa[0]'(by omega)) := by simp
  exact World.block_lt_of_cell? _ _ (hc 0 _ this)

/-- All blocks of what is read lie in memory. -/
theorem RdV.lt {w : World} : ∀ {f : F} {xs : List Value} {fp : List Nat}, RdV w f xs fp → ∀ b ∈ fp, b < w.heap.size
  | .nil, _, _, ⟨_, rfl⟩, _, hb => by simp at hb
  | .cons _ _ _ a r, _, _, ⟨p, c, fa, fr, xr, _, rfl, _, _, hr, ha⟩, b, hb => by
    rcases List.mem_append.1 hb with hb | hb
    · rcases ha with ⟨rfl, rfl⟩ | ⟨b', o, xa, fb, rfl, rfl, h0, hc, hf, hx⟩
      · simp at hb
      · rcases List.mem_cons.1 hb with rfl | hb
        · exact RdP.head_lt h0 hc hx
        · exact RdV.lt hx b hb
    · exact RdV.lt hr b hb
theorem RdP.lt {w : World} {a : F} {p : Option Addr} {fa : List Nat} (h : RdP w a p fa) : ∀ b ∈ fa, b < w.heap.size := by
  rcases h with ⟨rfl, rfl⟩ | ⟨b', o, xa, fb, rfl, rfl, h0, hc, hf, hx⟩
  · intro b hb; simp at hb
  · intro b hb
    rcases List.mem_cons.1 hb with rfl | hb
    · exact RdP.head_lt h0 hc hx
    · exact hx.lt b hb

/-- In a world in which these blocks are as they were the same is read. -/
theorem RdV.agree {w w' : World} : ∀ {f : F} {xs : List Value} {fp : List Nat}, RdV w f xs fp → (∀ b ∈ fp, ∀ o, w'.cell? ⟨b, o, none⟩ = w.cell? ⟨b, o, none⟩ ∧ w'.frozen? ⟨b, o, none⟩ = w.frozen? ⟨b, o, none⟩) → RdV w' f xs fp
  | .nil, _, _, h, _ => h
  | .cons _ _ _ a r, _, _, ⟨p, c, fa, fr, xr, e1, rfl, h1, h2, hr, ha⟩, e => by
    refine ⟨p, c, fa, fr, xr, e1, rfl, h1, h2, hr.agree fun b hb => e b (List.mem_append_right _ hb), ?_⟩
    rcases ha with ha | ⟨b', o, xa, fb, rfl, rfl, h0, hc, hf, hx⟩
    · exact .inl ha
    · exact .inr ⟨b', o, xa, fb, rfl, rfl, h0, fun i v hv => ((e b' (by simp) _).1).trans (hc i v hv), fun k => ((e b' (by simp) k).2).trans (hf k), RdV.agree hx fun b hb => e b (by simp [hb])⟩
theorem RdP.agree {w w' : World} {a : F} {p : Option Addr} {fa : List Nat} (h : RdP w a p fa) (e : ∀ b ∈ fa, ∀ o, w'.cell? ⟨b, o, none⟩ = w.cell? ⟨b, o, none⟩ ∧ w'.frozen? ⟨b, o, none⟩ = w.frozen? ⟨b, o, none⟩) : RdP w' a p fa := by
  rcases h with h | ⟨b', o, xa, fb, rfl, rfl, h0, hc, hf, hx⟩
  · exact .inl h
  · exact .inr ⟨b', o, xa, fb, rfl, rfl, h0, fun i v hv => ((e b' (by simp) _).1).trans (hc i v hv), fun k => ((e b' (by simp) k).2).trans (hf k), hx.agree fun b hb => e b (by simp [hb])⟩
theorem RdV.ext {S : Nat → Prop} {w w' : World} {f : F} {xs : List Value} {fp : List Nat} (h : RdV w f xs fp) (e : Ext S w w') (hs : ∀ b ∈ fp, ¬ S b) : RdV w' f xs fp :=
  h.agree fun b hb o => ⟨e.cell (p := ⟨b, o, none⟩) (h.lt b hb) (hs b hb), e.frozen (p := ⟨b, o, none⟩) (h.lt b hb) (hs b hb)⟩
theorem RdP.ext {S : Nat → Prop} {w w' : World} {a : F} {p : Option Addr} {fa : List Nat} (h : RdP w a p fa) (e : Ext S w w') (hs : ∀ b ∈ fa, ¬ S b) : RdP w' a p fa :=
  h.agree fun b hb o => ⟨e.cell (p := ⟨b, o, none⟩) (h.lt b hb) (hs b hb), e.frozen (p := ⟨b, o, none⟩) (h.lt b hb) (hs b hb)⟩

theorem RdV.app {w : World} : ∀ {f g : F} {xs ys : List Value} {fp gp : List Nat}, RdV w f xs fp → RdV w g ys gp → RdV w (f.app g) (xs ++ ys) (fp ++ gp)
  | .nil, _, _, _, _, _, ⟨rfl, rfl⟩, h => h
  | .cons _ _ _ a r, _, _, _, _, _, ⟨p, c, fa, fr, xr, rfl, rfl, h1, h2, hr, ha⟩, h =>
    ⟨p, c, fa, _, xr ++ _, by simp, by simp, h1, h2, RdV.app hr h, ha⟩
theorem RdV.drop {w : World} : ∀ (k : Nat) {f : F} {xs : List Value} {fp : List Nat}, RdV w f xs fp → ∃ fq, RdV w (f.drop k) (xs.drop (4 * k)) fq ∧ (∀ b ∈ fq, b ∈ fp)
  | 0, f, xs, fp, h => ⟨fp, by simpa [F.drop] using h, fun _ h => h⟩
  | k + 1, .nil, _, _, ⟨rfl, rfl⟩ => ⟨[], by simp [F.drop, RdV], fun _ h => h⟩
  | k + 1, .cons _ _ _ _ r, _, _, ⟨p, c, fa, fr, xr, rfl, rfl, h1, h2, hr, ha⟩ => by
    obtain ⟨fq, h, hm⟩ := RdV.drop k hr
    refine ⟨fq, ?_, fun b hb => List.mem_append_right _ (hm b hb)⟩
    rw [show 4 * (k + 1) = 4 * k + 1 + 1 + 1 + 1 by omega]
    simpa [F.drop] using h
theorem RdV.take {w : World} : ∀ (k : Nat) {f : F} {xs : List Value} {fp : List Nat}, RdV w f xs fp → ∃ fq, RdV w (f.take k) (xs.take (4 * k)) fq ∧ fq.Sublist fp
  | 0, f, xs, fp, h => ⟨[], by simp [F.take, RdV], List.nil_sublist _⟩
  | k + 1, .nil, _, _, ⟨rfl, rfl⟩ => ⟨[], by simp [F.take, RdV], List.nil_sublist _⟩
  | k + 1, .cons _ _ _ _ r, _, _, ⟨p, c, fa, fr, xr, rfl, rfl, h1, h2, hr, ha⟩ => by
    obtain ⟨fq, h, hm⟩ := RdV.take k hr
    refine ⟨fa ++ fq, ?_, List.Sublist.append (List.Sublist.refl _) hm⟩
    rw [show 4 * (k + 1) = 4 * k + 1 + 1 + 1 + 1 by omega]
    simp only [F.take, List.take_succ_cons]
    exact ⟨p, c, fa, fq, _, rfl, rfl, h1, h2, h, ha⟩
/-- Element k: its four values, and what its own arguments read as. -/
theorem RdV.at {w : World} {f : F} {xs : List Value} {fp : List Nat} (h : RdV w f xs fp) {k : Nat} (hk : k < f.len) :
    ∃ op n s a p c fa, f.drop k = .cons op n s a (f.drop (k + 1)) ∧ xs[4 * k]? = some (.int .i64 op) ∧ xs[4 * k + 1]? = some (.int .i64 n) ∧ xs[4 * k + 2]? = some (.string s) ∧ xs[4 * k + 3]? = some (.slice p a.len c) ∧ a.len ≤ c ∧ c ≤ 9223372036854775807 ∧ RdP w a p fa ∧ (∀ b ∈ fa, b ∈ fp) := by
  obtain ⟨op, n, s, a, e⟩ := F.drop_cons hk
  obtain ⟨fq, hd, hm⟩ := h.drop k
  rw [e] at hd
  obtain ⟨p, c, fa, fr, xr, ex, rfl, h1, h2, hr, ha⟩ := hd
  have g : ∀ i, xs[4 * k + i]? = (xs.drop (4 * k))[i]? := fun i => by rw [List.getElem?_drop]
  refine ⟨op, n, s, a, p, c, fa, e, ?_, ?_, ?_, ?_, h1, h2, ha, fun b hb => hm b (List.mem_append_left _ hb)⟩
  · have := g 0; rw [ex] at this; simpa using this
  · have := g 1; rw [ex] at this; simpa using this
  · have := g 2; rw [ex] at this; simpa using this
  · have := g 3; rw [ex] at this; simpa using this
end Go.Proofs.YtkgciohebloffaaGreat
