/- Texts joined: Tree. -/
import Derived.Test.YtkgciohebloffaaGreatJS02
import Derived.Deep.RegionLaw
import Derived.Deep.AppendLies
/- Tree: an expression of so many levels at most, in memory of its own. -/
namespace Go.Proofs.YtkgciohebloffaaGreat
open Go.RowKit
section
variable {sb : Nat} {a : Option Addr} {len cap : Nat} {zs : List Int} {at_ : Int}

/-- The most expressions, and the most numbers of the stream. -/
def tb : Nat → Nat | 0 => 1 | d + 1 => 1 + 3 * tb d
def ct : Nat → Nat | 0 => 3 | d + 1 => 4 + 3 * ct d

/-- The counter is low enough for d levels more. -/
def AtOk (d : Nat) (x : Int) : Prop := x ≤ 1000000000 - 10000000 * d

/-- An expression that was made in new memory. -/
def Made (m : Nat) (w w' : World) (e : Ending) : Prop :=
  ∃ (op n : Int) (s : ByteArray) (f : F) (p : Option Addr) (c : Nat) (fa : List Nat), e = .returned (.agg #[.int .i64 op, .int .i64 n, .string s, .slice p f.len c]) ∧ RdP w' f p fa ∧ f.len ≤ c ∧ c ≤ 9223372036854775807 ∧ fa.Nodup ∧ (∀ b ∈ fa, w.heap.size ≤ b) ∧ (F.cons op n s f .nil).Fits ∧ f.size + 1 ≤ m
def SomeTree (sb : Nat) (a : Option Addr) (len cap : Nat) (zs : List Int) (at_ : Int) (d m : Nat) (w : World) (e : Ending) (w' : World) : Prop :=
  Made m w w' e ∧ Went sb a len cap zs at_ d w w'

theorem LeafOk.fits {op n : Int} {s : ByteArray} (h : LeafOk op n s) : (F.cons op n s .nil .nil).Fits := by
  rcases h with ⟨rfl, h1, h2, rfl⟩ | ⟨rfl, rfl, c, rfl, _, _⟩
  · exact ⟨by omega, by omega, by decide, trivial, trivial⟩
  · exact ⟨by omega, by omega, (Nat.le_trans (Nat.le_refl 1) (by decide) : ByteArray.size ⟨#[c]⟩ ≤ 200000), trivial, trivial⟩

/-- What the walk wants of a block of four cells, behind a step that leaves it. -/
theorem blk4_new {S : Nat → Prop} {w w' : World} {v0 v1 v2 v3 : Value} {T : TypeId} (e : Ext S (w.alloc (.cells #[v0, v1, v2, v3] T)) w') (hs : ¬ S w.heap.size) : w'.heap[w.heap.size]? = some (.cells #[v0, v1, v2, v3] T (0, 0)) := e.heap (heap_new w _) hs

set_option maxHeartbeats 400000 in
/-- A leaf is enough. -/
theorem tree_leaf (d : Int) (w : World) (h : Str w sb a len cap zs at_) (hat : at_ ≤ 10000000000) (hd : d < 2) :
    Calls Tryz.prog 47 #[.pointer (some ⟨sb, 0, none⟩), .int .i64 d] w (SomeTree sb a len cap zs at_ 3 1 w) := by
  have H := hid h
  have HS := h.size
  clear h
  go_enter Tryz.func47, Tryz.ntmps47
  go_wp2_with fail
  refine (leaf_any _ (H.out.alloc _) (by omega)).mono ?_
  rintro e w' ⟨⟨op, n, s, hok, rfl⟩, hw⟩
  have hb := blk4_new hw.ext (by omega)
  obtain ⟨⟨q0, q1, q2, q3⟩, f0, f1, f2, f3⟩ := blk4 hb
  clear hb
  have HW := hid hw
  have hz : w.heap.size + 1 ≤ w'.heap.size := by have := hw.ext.size; simpa using this
  have HO := hid hok
  clear hw hok
  go_wp2_with fail
  refine bodyPost_ret (v := .agg #[.int .i64 op, .int .i64 n, .string s, .slice none 0 0]) (by simp [results, Tryz.results47, go_sem, q0, q1, q2, q3]) rfl ⟨⟨op, n, s, .nil, none, 0, [], rfl, .inl ⟨rfl, rfl⟩, Nat.le_refl _, by omega, List.nodup_nil, by simp, HO.out.fits, by simp [F.size]⟩, ?_⟩
  have HT : Went sb a len cap zs at_ 3 w w' := ⟨((Ext.refl w).alloc _).trans HW.out.1, by obtain ⟨x, hx, hl⟩ := HW.out.2; exact ⟨x, hx, by omega⟩⟩
  exact (((HT.setCell (p := ⟨_, 0, none⟩) (Nat.le_refl _) H.out _).setCell (p := ⟨_, 1, none⟩) (Nat.le_refl _) H.out _).setCell (p := ⟨_, 2, none⟩) (Nat.le_refl _) H.out _).setCell (p := ⟨_, 3, none⟩) (Nat.le_refl _) H.out _

theorem info_expr : (Tryz.prog.info? 28).map (fun i => (i.zero, i.size, i.bytes)) = some (some (.agg #[.int .i64 0, .int .i64 0, .string ⟨#[]⟩, .slice none 0 0]), 4, 56) := by kernel_rfl

theorem ownsRow_ext {S : Nat → Prop} {w w' : World} {base : Nat} {e : TypeId} {size : Nat} {v : Value} {n : Nat} {xs : List Value} (h : w.ownsRow base e size v n xs) (x : Ext S w w') (hs : ∀ b, base ≤ b → b < w.heap.size → ¬ S b) : w'.ownsRow base e size v n xs := by
  refine ⟨h.1, ?_⟩
  rcases h.2 with hn | ⟨g, cap, cur, rfl, hb, hg, rest⟩
  · exact .inl hn
  · exact .inr ⟨g, cap, cur, rfl, hb, x.heap hg (hs g hb (Array.getElem?_eq_some_iff.1 hg).1), rest⟩
theorem ownsRow_drew {w : World} {base : Nat} {e : TypeId} {size : Nat} {v : Value} {n : Nat} {xs : List Value} (h : w.ownsRow base e size v n xs) : w.drew.ownsRow base e size v n xs := h
theorem Str.drew {w : World} (h : Str w sb a len cap zs at_) : Str w.drew sb a len cap zs at_ := ⟨h.c0, h.c1, h.f1, h.row, h.lo, h.sep⟩

/-- What holds behind k rounds of the loop that gathers the arguments: rb the result's block, eb that of e. -/
def TreeRel (sb : Nat) (a : Option Addr) (len cap : Nat) (zs : List Int) (at1 : Int) (d : Nat) (w : World) (rb eb : Nat) (r : Int) (k : Nat) (wr : World) : Prop :=
  ∃ (f : F) (xs : List Value) (fp : List Nat) (v : Value) (at' : Int), f.len = k ∧ wr.heap[eb]? = some (.cells #[.int .i64 r, .int .i64 0, .string ⟨#[]⟩, v] 28 (0, 0)) ∧
    wr.heap[rb]? = some (.cells #[.int .i64 0, .int .i64 0, .string ⟨#[]⟩, .slice none 0 0] 28 (0, 0)) ∧
    wr.ownsRow (eb + 1) 28 4 v k xs ∧ RdV wr f xs fp ∧ fp.Nodup ∧ (∀ b, v.ownBlock = some b → b ∉ fp) ∧ (∀ b ∈ fp, eb < b) ∧ f.Fits ∧ f.size ≤ k * tb d ∧
    Str wr sb a len cap zs at' ∧ at' ≤ at1 + 1 + k * ct d ∧ Ext (· = sb) w wr ∧ eb < wr.heap.size

theorem heap_setCell_at {w : World} {b i : Nat} {C : Array Value} {T : TypeId} {fr : Nat × Nat} {v : Value} (h : w.heap[b]? = some (.cells C T fr)) : (w.setCell ⟨b, i, none⟩ v).heap[b]? = some (.cells (C.setIfInBounds i v) T fr) := by
  simp [World.setCell, Array.getElem?_modify, h]

theorem TreeRel.step {at1 at' : Int} {d k : Nat} {w wr w3 w4 : World} {rb eb : Nat} {r op n : Int} {s : ByteArray} {f g : F} {xs : List Value} {fp fa : List Nat} {p p' : Option Addr} {c c' gg cap' : Nat}
    (hH : Str w sb a len cap zs at_) (hrb : rb = w.heap.size) (hreb : rb < eb) (hsb : eb ≠ sb) (hebs : eb < wr.heap.size)
    (hE : wr.heap[eb]? = some (.cells #[.int .i64 r, .int .i64 0, .string ⟨#[]⟩, .slice p k c] 28 (0, 0)))
    (hR : wr.heap[rb]? = some (.cells #[.int .i64 0, .int .i64 0, .string ⟨#[]⟩, .slice none 0 0] 28 (0, 0)))
    (hX : f.len = k ∧ RdV wr f xs fp ∧ fp.Nodup ∧ (∀ b, (Value.slice p k c).ownBlock = some b → b ∉ fp) ∧ (∀ b ∈ fp, eb < b) ∧ f.Fits ∧ f.size ≤ k * tb d ∧ Str wr sb a len cap zs at' ∧ at' ≤ at1 + 1 + k * ct d ∧ Ext (· = sb) w wr)
    (hO : wr.ownsRow (eb + 1) 28 4 (.slice p k c) k xs)
    (hM : RdP w3 g p' fa ∧ g.len ≤ c' ∧ c' ≤ 9223372036854775807 ∧ fa.Nodup ∧ (∀ b ∈ fa, wr.drew.heap.size ≤ b) ∧ (F.cons op n s g .nil).Fits ∧ g.size + 1 ≤ tb d)
    (hW3 : Went sb a len cap zs at' (ct d) wr.drew w3)
    (hown : w4.ownsRow (eb + 1) 28 4 (.slice (some ⟨gg, 0, none⟩) (k + 1) cap') (k + 1) (xs ++ [.int .i64 op, .int .i64 n, .string s, .slice p' g.len c']))
    (hgrow : (w3.alloc (.cells #[.int .i64 op, .int .i64 n, .string s, .slice p' g.len c'] 28)).grownBy w4 (Value.slice p k c).ownBlock)
    (hat : (Value.slice p k c).ownBlock = some gg ∨ gg = w3.heap.size + 1) (_hlt : gg < w4.heap.size) :
    TreeRel sb a len cap zs at1 d w rb eb r (k + 1) (w4.setCell ⟨eb, 3, none⟩ (.slice (some ⟨gg, 0, none⟩) (k + 1) cap')) := by
  obtain ⟨hlen, hx, hnd, hvb, hlt1, hfit, hsz, hs, hat', hext⟩ := hX
  obtain ⟨m1, m2, m3, m4, m5, m6, m7⟩ := hM
  have o1 := hO.lt
  -- what the four steps leave alone: all blocks of wr but the stream's, e's and the row's
  have e3 : Ext (· = sb) wr w3 := ⟨hW3.1.os, hW3.1.tape, hW3.1.output, hW3.1.size, hW3.1.block⟩
  have z3 : wr.heap.size ≤ w3.heap.size := e3.size
  have hfa : ∀ b ∈ fa, wr.heap.size ≤ b := m5
  have hfl : ∀ b ∈ fa, b < w3.heap.size := m1.lt
  have hfp : ∀ b ∈ fp, b < wr.heap.size := hx.lt
  have hsw : sb < wr.heap.size := hs.size
  have hrw : rb < wr.heap.size := by omega
  have hrs : rb ≠ sb := by have := hH.size; omega
  have own0 : ∀ b, (Value.slice p k c).ownBlock = some b → eb + 1 ≤ b ∧ b < wr.heap.size := o1
  have e4 : Ext (fun b => b = sb ∨ (Value.slice p k c).ownBlock = some b) wr w4 :=
    ((e3.mono fun b _ h => .inl h).alloc _).grown hgrow fun b h => .inl (.inr h)
  have e34 : Ext (fun b => (Value.slice p k c).ownBlock = some b) w3 w4 := ((Ext.refl w3).alloc _).grown hgrow fun b h => .inl h
  have e35 : Ext (fun b => b = eb ∨ (Value.slice p k c).ownBlock = some b) w3 (w4.setCell ⟨eb, 3, none⟩ (.slice (some ⟨gg, 0, none⟩) (k + 1) cap')) :=
    (e34.mono fun b _ h => .inr h).setCell (p := ⟨eb, 3, none⟩) (.inl (.inl rfl)) _
  have e5 : Ext (fun b => b = sb ∨ b = eb ∨ (Value.slice p k c).ownBlock = some b) wr (w4.setCell ⟨eb, 3, none⟩ (.slice (some ⟨gg, 0, none⟩) (k + 1) cap')) :=
    (e4.mono fun b _ h => h.elim .inl fun h => .inr (.inr h)).setCell (p := ⟨eb, 3, none⟩) (.inl (.inr (.inl rfl))) _
  have hE4 : w4.heap[eb]? = some (.cells #[.int .i64 r, .int .i64 0, .string ⟨#[]⟩, .slice p k c] 28 (0, 0)) :=
    e4.heap hE (by rintro (h | h); exact hsb h; have := own0 eb h; omega)
  obtain ⟨x, hx3, hl3⟩ := hW3.2
  refine ⟨f.app (.cons op n s g .nil), xs ++ [.int .i64 op, .int .i64 n, .string s, .slice p' g.len c'], fp ++ fa, .slice (some ⟨gg, 0, none⟩) (k + 1) cap', x, ?_, heap_setCell_at hE4, ?_, ?_, ?_, ?_, ?_, ?_, F.fits_app hfit m6, ?_, ?_, ?_, ?_, ?_⟩
  · simp [F.len_app, F.len, hlen]
  · exact e5.heap hR (by rintro (h | h | h); exact hrs h; omega; have := own0 rb h; omega)
  · refine ⟨hown.1, .inr ?_⟩
    rcases hown.2 with ⟨h, _⟩ | ⟨g', cap'', cur, h1, h2, h3, rest⟩
    · cases h
    · refine ⟨g', cap'', cur, h1, h2, ?_, rest⟩
      rw [Below.heap_setCell _ _ _ _ (by simp; omega)]; exact h3
  · refine RdV.app (hx.ext e5 ?_) ?_
    · intro b hb
      rintro (h | h | h)
      · have := hlt1 b hb; have := hH.size; omega
      · have := hlt1 b hb; omega
      · exact hvb b h hb
    · refine ⟨p', c', fa, [], [], rfl, by simp, m2, m3, ⟨rfl, rfl⟩, m1.ext e35 ?_⟩
      intro b hb
      rintro (h | h)
      · have := hfa b hb; omega
      · have := hfa b hb; have := own0 b h; omega
  · refine List.nodup_append.2 ⟨hnd, m4, ?_⟩
    intro y hy z hz e
    have := hfp y hy; have := hfa z hz; omega
  · intro b hb hmem
    simp [Value.ownBlock] at hb
    subst hb
    rcases List.mem_append.1 hmem with hm | hm
    · rcases hat with h | h
      · exact hvb _ h hm
      · have := hfp _ hm; omega
    · rcases hat with h | h
      · have := hfa _ hm; have := own0 _ h; omega
      · have := hfl _ hm; omega
  · intro b hb
    rcases List.mem_append.1 hb with hm | hm
    · exact hlt1 b hm
    · have := hfa b hm; omega
  · rw [F.size_app]; simp only [F.size]; rw [Nat.add_mul]; omega
  · exact hx3.ext e35 (by have := hH.size; rintro (h | h); omega; have := own0 _ h; omega) (fun b hb => by have := hH.size; rintro (h | h); omega; have := own0 _ h; omega)
  · have e : ((k + 1 : Nat) : Int) * (ct d : Int) = k * ct d + ct d := by rw [Int.natCast_add, Int.add_mul]; simp
    rw [e]; omega
  · exact hext.trans_new e5 (by
      intro i hi
      have := hH.size
      rintro (h | h | h)
      · exact h
      · omega
      · have := own0 _ h; omega)
  · have := e5.size; omega

/-- A row that was gathered reads as the expressions in it. -/
theorem rdP_of_own {w : World} {base k c : Nat} {p : Option Addr} {xs : List Value} {f : F} {fp : List Nat} (hO : w.ownsRow base 28 4 (.slice p k c) k xs) (hx : RdV w f xs fp) (hlen : f.len = k) (hnd : fp.Nodup) (hb : ∀ b, (Value.slice p k c).ownBlock = some b → b ∉ fp) :
    ∃ fa, RdP w f p fa ∧ fa.Nodup ∧ (∀ b ∈ fa, b ∈ fp ∨ base ≤ b) ∧ f.len ≤ c ∧ c ≤ 9223372036854775807 := by
  rcases hO.2 with ⟨h, h0⟩ | ⟨g, cap, cur, h1, h2, h3, h4, h5, h6, h7⟩
  · cases h
    exact ⟨[], .inl ⟨F.eq_nil_of_len (by omega), rfl⟩, List.nodup_nil, by simp, by omega, by omega⟩
  · cases h1
    unfold maxLen at h5
    by_cases hk : k = 0
    · exact ⟨[], .inl ⟨F.eq_nil_of_len (by omega), rfl⟩, List.nodup_nil, by simp, by omega, by omega⟩
    · refine ⟨g :: fp, .inr ⟨g, 0, xs, fp, rfl, rfl, by omega, ?_, ?_, hx⟩, List.nodup_cons.2 ⟨hb g rfl, hnd⟩, ?_, by omega, by omega⟩
      · intro i v hv
        have := hO.cells (g := g) rfl i v hv
        have e : (⟨g, 0, none⟩ : Addr).add i = ⟨g, 0 + i, none⟩ := by unfold Addr.add; split <;> simp_all
        rw [e] at this; exact this
      · intro j; simp [World.frozen?, h3]
      · intro b hb
        rcases List.mem_cons.1 hb with rfl | hb
        · exact .inr h2
        · exact .inl hb

theorem ct_le : ∀ d : Nat, d ≤ 4 → ct d ≤ 403
  | 0, _ => by decide
  | 1, _ => by decide
  | 2, _ => by decide
  | 3, _ => by decide
  | 4, _ => by decide
  | _ + 5, h => by omega
theorem at_bound {k d : Nat} {x at1 : Int} (hk : k ≤ 3) (h : x ≤ at1 + 1 + k * ct d) : x ≤ at1 + 1 + 3 * ct d := by
  have : (k : Int) * (ct d : Int) ≤ 3 * (ct d : Int) := Int.mul_le_mul_of_nonneg_right (by omega) (by omega)
  omega

/-- Four stores into the block of a result. -/
theorem Ext.set4 {S : Nat → Prop} {w w' : World} (h : Ext S w w') {b : Nat} (hb : S b ∨ w.heap.size ≤ b) (v0 v1 v2 v3 : Value) : Ext S w ((((w'.setCell ⟨b, 0, none⟩ v0).setCell ⟨b, 1, none⟩ v1).setCell ⟨b, 2, none⟩ v2).setCell ⟨b, 3, none⟩ v3) :=
  (((h.setCell (p := ⟨b, 0, none⟩) hb v0).setCell (p := ⟨b, 1, none⟩) hb v1).setCell (p := ⟨b, 2, none⟩) hb v2).setCell (p := ⟨b, 3, none⟩) hb v3

theorem TreeRel.finish {at1 : Int} {d k : Nat} {w wr : World} {rb eb : Nat} {r : Int} (hH : Str w sb a len cap zs at_) (hrb : rb = w.heap.size) (hreb : rb < eb) (hk : k ≤ 3) (hr1 : 3 ≤ r) (hr2 : r ≤ 9) (hle : at1 ≤ at_ + 1)
    {f : F} {xs : List Value} {fp : List Nat} {p : Option Addr} {c : Nat} {at' : Int}
    (hX : f.len = k ∧ RdV wr f xs fp ∧ fp.Nodup ∧ (∀ b, (Value.slice p k c).ownBlock = some b → b ∉ fp) ∧ (∀ b ∈ fp, eb < b) ∧ f.Fits ∧ f.size ≤ k * tb d ∧ Str wr sb a len cap zs at' ∧ at' ≤ at1 + 1 + k * ct d ∧ Ext (· = sb) w wr)
    (hO : wr.ownsRow (eb + 1) 28 4 (.slice p k c) k xs) (v0 v1 v2 v3 : Value) :
    SomeTree sb a len cap zs at_ (ct (d + 1)) (tb (d + 1)) w (.returned (.agg #[.int .i64 r, .int .i64 0, .string ⟨#[]⟩, .slice p k c])) ((((wr.setCell ⟨rb, 0, none⟩ v0).setCell ⟨rb, 1, none⟩ v1).setCell ⟨rb, 2, none⟩ v2).setCell ⟨rb, 3, none⟩ v3) := by
  obtain ⟨hlen, hx, hnd, hvb, hlt1, hfit, hsz, hs, hat', hext⟩ := hX
  have hsb := hH.size
  have ex : Ext (· = rb) wr ((((wr.setCell ⟨rb, 0, none⟩ v0).setCell ⟨rb, 1, none⟩ v1).setCell ⟨rb, 2, none⟩ v2).setCell ⟨rb, 3, none⟩ v3) := (Ext.refl (S := (· = rb)) wr).set4 (b := rb) (.inl rfl) _ _ _ _
  obtain ⟨fa, h1, h2, h3, h4, h5⟩ := rdP_of_own hO hx hlen hnd hvb
  have hge : ∀ b ∈ fa, eb < b := fun b hb => (h3 b hb).elim (hlt1 b) (fun h => h)
  subst hlen
  refine ⟨⟨r, 0, _, f, p, c, fa, rfl, h1.ext ex (fun b hb => by have := hge b hb; omega), h4, h5, h2, fun b hb => by have := hge b hb; omega, ⟨by omega, by omega, by decide, hfit, trivial⟩, ?_⟩, ?_, at', ?_, ?_⟩
  · show f.size + 1 ≤ 1 + 3 * tb d
    have := Nat.mul_le_mul_right (tb d) hk
    omega
  · exact hext.set4 (.inr (by omega)) _ _ _ _
  · exact hs.ext ex (by omega) (fun b hb => by omega)
  · have := at_bound hk hat'
    show at' ≤ at_ + ((4 + 3 * ct d : Nat) : Int)
    omega

set_option maxRecDepth 100000 in
set_option maxHeartbeats 1000000 in
theorem tree_inner (d : Nat) (ih : ∀ (at_ : Int) (w : World), Str w sb a len cap zs at_ → AtOk d at_ → Calls Tryz.prog 47 #[.pointer (some ⟨sb, 0, none⟩), .int .i64 d] w (SomeTree sb a len cap zs at_ (ct d) (tb d) w)) (w : World) (h : Str w sb a len cap zs at_) (hat : AtOk (d + 1) at_) (hd : 1 ≤ d) (hd2 : d ≤ 4) :
    Calls Tryz.prog 47 #[.pointer (some ⟨sb, 0, none⟩), .int .i64 (d + 1 : Nat)] w (SomeTree sb a len cap zs at_ (ct (d + 1)) (tb (d + 1)) w) := by
  have H := hid h
  have HS := h.size
  have IH := hid (And.intro ih hat)
  have hat2 : at_ ≤ 990000000 := by unfold AtOk at hat; omega
  clear h ih hat
  go_enter Tryz.func47, Tryz.ntmps47
  go_wp2_with fail
  refine (flip_any 3 _ (H.out.alloc _) (by omega) (by omega) (by omega)).mono ?_
  rintro e w' ⟨⟨r, rfl⟩, hw⟩
  have hb := blk4_new hw.ext (by omega)
  have hz : w.heap.size + 1 ≤ w'.heap.size := by have := hw.ext.size; simpa using this
  have HW := hid hw
  obtain ⟨at1, h1, hle⟩ := hw.2
  have H1 := hid h1
  clear hw h1
  cases r
  · have HB := hid hb
    clear hb
    go_wp2_with fail
    refine (pick_new 7 [3, 4, 5, 6, 7, 8, 9] _ _ H1.out (by omega) rfl (by omega) (by omega)).mono ?_
    rintro e w2 ⟨⟨r, hr, rfl⟩, hw2⟩
    have hb2 := hw2.ext.heap HB.out (by omega)
    have hz2 : w.heap.size + 1 ≤ w2.heap.size := Nat.le_trans hz hw2.ext.size
    have hr1 : 3 ≤ r ∧ r ≤ 9 := by simp at hr; omega
    obtain ⟨hr1, hr2⟩ := hr1
    obtain ⟨at2, h2, hle2⟩ := hw2.2
    have hrel0 : TreeRel sb a len cap zs at1 d w w.heap.size w2.heap.size r 0 (w2.alloc (.cells #[.int .i64 r, .int .i64 0, .string ⟨#[]⟩, .slice none 0 0] 28)) := by
      refine ⟨.nil, [], [], .slice none 0 0, at2, rfl, heap_new _ _, ?_, World.ownsRow_nil _ _ _ _, ⟨rfl, rfl⟩, List.nodup_nil, by simp, by simp, trivial, by simp [F.size], h2.alloc _, by omega, ?_, by simp⟩
      · exact ((Ext.refl (S := fun _ => False) w2).alloc _).heap hb2 id
      · exact ((((Ext.refl w).alloc _).trans HW.out.1).trans hw2.1).alloc _
    have HR := hid hrel0
    clear hrel0 hw2 hb2 h2 hr HB
    have hcase : ((r == 8) = true) ∨ ((r == 8) = false ∧ (r == 9) = true) ∨ ((r == 8) = false ∧ (r == 9) = false) := by
      cases (r == 8) <;> cases (r == 9) <;> simp
    rcases hcase with h8 | ⟨h8, h9⟩ | ⟨h8, h9⟩
    all_goals
      go_wp2_with fail
      go_loopw [26] (fun i wr => ∃ k : Nat, k ≤ 3 ∧ i = .int .i64 k ∧ TreeRel sb a len cap zs at1 d w w.heap.size w2.heap.size r k wr) (fun i _ => 3 - (intOf i).toNat)
      case atStart => exact ⟨0, by omega, rfl, HR.out⟩
      case round =>
        obtain ⟨k, hk, rfl, f, xs, fp, v, at', hlen, hE, hR, hown, hx, hnd, hvb, hlt, hfit, hsize, hs, hat', hext, hebs⟩ := hrel
        obtain ⟨i0, hi0, hz0, hz1, hz2'⟩ := info_parts info_expr
        obtain ⟨p, c, hv⟩ : ∃ p c, v = .slice p k c := by
          rcases hown.2 with ⟨h1, rfl⟩ | ⟨g, cap, cur, h1, _⟩
          · exact ⟨_, _, h1⟩
          · exact ⟨_, _, h1⟩
        subst hv
        obtain ⟨⟨q0, q1, q2, q3⟩, f0, f1, f2, f3⟩ := blk4 hE
        obtain ⟨⟨u0, u1, u2, u3⟩, g0, g1, g2, g3⟩ := blk4 hR
        have HE := hid hE
        have HRr := hid hR
        have HX := hid (And.intro hlen (And.intro hx (And.intro hnd (And.intro hvb (And.intro hlt (And.intro hfit (And.intro hsize (And.intro hs (And.intro hat' hext)))))))))
        have HO := hid hown
        clear hE hR hlen hx hnd hvb hlt hfit hsize hs hat' hext hown
        have hss := HX.out.2.2.2.2.2.2.2.1
        have HS2 := hid hss
        clear hss
        have HATR : Hid (AtOk d at') := hid (by have h0 := IH.out.2; unfold AtOk at h0 ⊢; have h1 := at_bound hk HX.out.2.2.2.2.2.2.2.2.1; have h2 := ct_le d hd2; omega)
        have hkm : k + 1 ≤ maxLen := by unfold maxLen; omega
        have hO3 : ∀ o, some (⟨w2.heap.size, o, none⟩ : Addr).block ≠ (Value.slice p k c).ownBlock := by
          intro o e
          have := (HO.out.lt w2.heap.size e.symm).1
          omega
        have HO3 := hid hO3
        clear hO3
        have hneb : w2.heap.size ≠ sb := by omega
        have hwr : IntKind.i64.wrap (d : Int) = d := IntWalk.i64_in _ (by omega)
        go_wp2_with fail
        · go_region_law (first
              | (refine step_append_lies _ (by rfl) _ _ _ (by rfl) (w2.heap.size + 1) 28 i0 _ 4 56 Tryz.underlying26 hi0 hz0 hz1 hz2' rfl (by omega) (.slice p k c) k xs (by rfl) (HO4.out.alloc _) ⟨w3.heap.size, 0, none⟩ 1 1 [.int .i64 op, .int .i64 n, .string s, .slice p' g.len c'] (by rfl) (by rfl) (World.news_of_block (cs := #[.int .i64 op, .int .i64 n, .string s, .slice p' g.len c']) (t := 28) (fr := (0, 0)) (heap_alloc_new w3 _)) (by simp [Value.oneCell']) (by omega) hkm (by omega) (by simp; omega) (w3.heap.size + 1) (by simp) ?_; intro gg cap w4 hown4 hgrow hat4 hlt4; have q4 : w4.cell? ⟨w2.heap.size, 3, none⟩ = some (.slice p k c) := (hgrow.cell_far _ (by simp; omega) (HO3.out 3)).trans (((Ext.refl (S := fun _ => False) w3).alloc _).cell_some q3' id); have f4 : w4.frozen? ⟨w2.heap.size, 3, none⟩ = false := (hgrow.frozen_far _ (by simp; omega) (HO3.out 3)).trans ((((Ext.refl (S := fun _ => False) w3).alloc _).frozen (p := ⟨w2.heap.size, 3, none⟩) hz3 id).trans f3'))
              | (go_simp; go_at_call 47; refine (IH.out.1 at' _ (HS2.out.drew) HATR.out).mono ?_; rintro e w3 ⟨⟨op, n, s, g, p', c', fa, rfl, m1, m2, m3, m4, m5, m6, m7⟩, hw3⟩; have hz3 : w2.heap.size < w3.heap.size := Nat.lt_of_lt_of_le hebs hw3.1.size; have q3' : w3.cell? ⟨w2.heap.size, 3, none⟩ = some (.slice p k c) := hw3.1.cell_some q3 hneb; have f3' : w3.frozen? ⟨w2.heap.size, 3, none⟩ = false := (hw3.1.frozen (p := ⟨w2.heap.size, 3, none⟩) hebs hneb).trans f3; have HO4 := hid (ownsRow_ext (ownsRow_drew HO.out) hw3.1 (fun b hb _ => by omega)); have HM := hid (And.intro m1 (And.intro m2 (And.intro m3 (And.intro m4 (And.intro m5 (And.intro m6 m7)))))); have HW3 := hid hw3; clear m1 m2 m3 m4 m5 m6 m7 hw3))
          all_goals
            go_wp2_with fail
            go_roundw
            case rel =>
              have HT := TreeRel.step H.out rfl (by omega) hneb hebs HE.out HRr.out HX.out HO.out HM.out HW3.out hown4 hgrow hat4 hlt4
              first | exact ⟨k + 1, by omega, by go_num, HT⟩ | ((repeat apply Exists.intro); exact ⟨⟨k + 1, by omega, by go_num, HT⟩, rfl⟩)
            case measure => simp [intOf]; omega
        · refine bodyPost_ret (v := .agg #[.int .i64 r, .int .i64 0, .string ⟨#[]⟩, .slice p k c]) (by simp [results, Tryz.results47, go_sem, u0, u1, u2, u3]) rfl (TreeRel.finish H.out rfl (by omega) hk hr1 hr2 hle HX.out HO.out _ _ _ _)
  · obtain ⟨⟨q0, q1, q2, q3⟩, f0, f1, f2, f3⟩ := blk4 hb
    clear hb
    go_wp2_with fail
    refine (leaf_any _ H1.out (by omega)).mono ?_
    rintro e w2 ⟨⟨op, n, s, hok, rfl⟩, hw2⟩
    have e2 := hw2.ext
    have c0 := e2.cell_some q0 (by show w.heap.size ≠ sb; omega)
    have c1 := e2.cell_some q1 (by show w.heap.size ≠ sb; omega)
    have c2 := e2.cell_some q2 (by show w.heap.size ≠ sb; omega)
    have c3 := e2.cell_some q3 (by show w.heap.size ≠ sb; omega)
    have g0 := (e2.frozen (p := ⟨w.heap.size, 0, none⟩) (by simp; omega) (by show w.heap.size ≠ sb; omega)).trans f0
    have g1 := (e2.frozen (p := ⟨w.heap.size, 1, none⟩) (by simp; omega) (by show w.heap.size ≠ sb; omega)).trans f1
    have g2 := (e2.frozen (p := ⟨w.heap.size, 2, none⟩) (by simp; omega) (by show w.heap.size ≠ sb; omega)).trans f2
    have g3 := (e2.frozen (p := ⟨w.heap.size, 3, none⟩) (by simp; omega) (by show w.heap.size ≠ sb; omega)).trans f3
    have HW2 := hid hw2
    have HO := hid hok
    clear hw2 hok e2 q0 q1 q2 q3 f0 f1 f2 f3
    go_wp2_with fail
    have HT : Went sb a len cap zs at_ 3 w w2 := Went.trans (((Ext.refl w).alloc _).trans HW.out.1) hle HW2.out trivial
    refine bodyPost_ret (v := .agg #[.int .i64 op, .int .i64 n, .string s, .slice none 0 0]) (by simp [results, Tryz.results47, go_sem, c0, c1, c2, c3]) rfl ⟨⟨op, n, s, .nil, none, 0, [], rfl, .inl ⟨rfl, rfl⟩, Nat.le_refl _, by omega, List.nodup_nil, by simp, HO.out.fits, by simp [F.size, tb]⟩, ?_⟩
    have hct : (3 : Int) ≤ (ct (d + 1) : Nat) := by show (3 : Int) ≤ ((4 + 3 * ct d : Nat) : Int); omega
    exact ((((HT.setCell (p := ⟨_, 0, none⟩) (Nat.le_refl _) H.out _).setCell (p := ⟨_, 1, none⟩) (Nat.le_refl _) H.out _).setCell (p := ⟨_, 2, none⟩) (Nat.le_refl _) H.out _).setCell (p := ⟨_, 3, none⟩) (Nat.le_refl _) H.out _).mono hct

/-- Tree: whatever the stream holds, an expression in new memory. -/
theorem tree_any (d : Nat) : ∀ (at_ : Int) (w : World), d ≤ 5 → Str w sb a len cap zs at_ → AtOk d at_ →
    Calls Tryz.prog 47 #[.pointer (some ⟨sb, 0, none⟩), .int .i64 d] w (SomeTree sb a len cap zs at_ (ct d) (tb d) w) := by
  induction d with
  | zero => intro at_ w _ h hat; exact tree_leaf 0 w h (by unfold AtOk at hat; omega) (by omega)
  | succ d ih =>
    intro at_ w hd h hat
    by_cases h1 : d = 0
    · subst h1
      refine (tree_leaf 1 w h (by unfold AtOk at hat; omega) (by omega)).mono ?_
      rintro e w' ⟨⟨op, n, s, f, p, c, fa, h1, h2, h3, h4, h5, h6, h7, h8⟩, hw⟩
      exact ⟨⟨op, n, s, f, p, c, fa, h1, h2, h3, h4, h5, h6, h7, Nat.le_trans h8 (by decide)⟩, hw.mono (by decide)⟩
    · exact tree_inner d (fun at' w' h' hat' => ih at' w' (by omega) h' hat') w h hat (by omega) (by omega)

end
end Go.Proofs.YtkgciohebloffaaGreat
