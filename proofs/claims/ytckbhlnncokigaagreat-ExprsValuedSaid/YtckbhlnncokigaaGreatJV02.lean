/- Texts joined: Pick, Odd. -/
import Derived.Test.YtckbhlnncokigaaGreatJV01
/- The stream's choices: Flip, Range, Pick, Some, Odd. -/
namespace Go.Proofs.YtckbhlnncokigaaGreat
open Go.RowKit

section
variable {sb : Nat} {a : Option Addr} {len cap : Nat} {zs : List Int} {at_ : Int}
theorem Went.ext {d : Int} {w w' : World} (h : Went sb a len cap zs at_ d w w') : Ext (· = sb) w w' := h.1
theorem Went.trans {d d' : Int} {at' : Int} {w w1 w2 : World} (e : Ext (· = sb) w w1) (hle : at' ≤ at_ + d) (h : Went sb a len cap zs at' d' w1 w2) (_ : True) : Went sb a len cap zs at_ (d + d') w w2 :=
  ⟨e.trans h.1, by obtain ⟨x, hx, hl⟩ := h.2; exact ⟨x, hx, by omega⟩⟩
theorem Went.refl {d : Int} {w : World} (hd : 0 ≤ d) (h : Str w sb a len cap zs at_) : Went sb a len cap zs at_ d w w := ⟨Ext.refl w, at_, h, by omega⟩
theorem Went.mono {d d' : Int} {w w' : World} (h : Went sb a len cap zs at_ d w w') (hd : d ≤ d') : Went sb a len cap zs at_ d' w w' := ⟨h.1, by obtain ⟨x, hx, hl⟩ := h.2; exact ⟨x, hx, by omega⟩⟩
theorem Str.alloc {w : World} (h : Str w sb a len cap zs at_) (o : Obj) : Str (w.alloc o) sb a len cap zs at_ := by
  have e : Ext (fun _ => False) w (w.alloc o) := (Ext.refl w).alloc o
  exact ⟨e.cell_some h.c0 id, e.cell_some h.c1 id, (e.frozen (p := ⟨sb, 1, none⟩) h.size id).trans h.f1, h.row.ext e (fun _ _ _ => id), h.lo, h.sep⟩
/-- What leaves the stream's block alone leaves the stream. -/
theorem Str.ext {S : Nat → Prop} {w w' : World} (h : Str w sb a len cap zs at_) (e : Ext S w w') (h1 : ¬ S sb) (h2 : ∀ b, b < sb → ¬ S b) : Str w' sb a len cap zs at_ :=
  ⟨e.cell_some h.c0 h1, e.cell_some h.c1 h1, (e.frozen (p := ⟨sb, 1, none⟩) h.size h1).trans h.f1, h.row.ext e (fun x hx hc => h2 _ (h.sep x hx hc)), h.lo, h.sep⟩

def SomeBool (sb : Nat) (a : Option Addr) (len cap : Nat) (zs : List Int) (at_ d : Int) (w : World) (e : Ending) (w' : World) : Prop :=
  (∃ r : Bool, e = .returned (.bool r)) ∧ Went sb a len cap zs at_ d w w'
def SomeInt (sb : Nat) (a : Option Addr) (len cap : Nat) (zs : List Int) (at_ d : Int) (P : Int → Prop) (w : World) (e : Ending) (w' : World) : Prop :=
  (∃ r : Int, P r ∧ e = .returned (.int .i64 r)) ∧ Went sb a len cap zs at_ d w w'
def SomeStr (sb : Nat) (a : Option Addr) (len cap : Nat) (zs : List Int) (at_ d : Int) (P : ByteArray → Prop) (w : World) (e : Ending) (w' : World) : Prop :=
  (∃ r : ByteArray, P r ∧ e = .returned (.string r)) ∧ Went sb a len cap zs at_ d w w'

set_option maxHeartbeats 400000 in
theorem flip_any (n : Int) (w : World) (h : Str w sb a len cap zs at_) (hat : at_ ≤ 1000000000000) (hn : 1 ≤ n) (hn2 : n ≤ 4611686018427387904) :
    Calls Tryz.prog 23 #[.pointer (some ⟨sb, 0, none⟩), .int .i64 n] w (SomeBool sb a len cap zs at_ 1 w) := by
  have H := hid h
  clear h
  go_enter Tryz.func23, Tryz.ntmps23
  go_wp2_with fail
  refine (next_any sb a len cap zs at_ n _ H.out hat hn hn2).mono ?_
  rintro e w' ⟨⟨r, rfl, h0, h1⟩, hw⟩
  have HW := hid hw
  clear hw
  go_wp2_with fail
  go_ret
  exact ⟨⟨_, rfl⟩, HW.out⟩

set_option maxHeartbeats 400000 in
theorem range_any (lo hi : Int) (w : World) (h : Str w sb a len cap zs at_) (hat : at_ ≤ 1000000000000) (hlo : -1000000000000 ≤ lo) (hl : lo ≤ hi) (hhi : hi ≤ 1000000000000) :
    Calls Tryz.prog 52 #[.pointer (some ⟨sb, 0, none⟩), .int .i64 lo, .int .i64 hi] w (SomeInt sb a len cap zs at_ 1 (fun r => lo ≤ r ∧ r ≤ hi) w) := by
  have H := hid h
  clear h
  go_enter Tryz.func52, Tryz.ntmps52
  go_wp2_with fail
  refine (next_any sb a len cap zs at_ _ _ H.out hat (by omega) (by omega)).mono ?_
  rintro e w' ⟨⟨r, rfl, h0, h1⟩, hw⟩
  have HW := hid hw
  clear hw
  go_wp2_with fail
  go_ret
  exact ⟨⟨_, ⟨by omega, by omega⟩, rfl⟩, HW.out⟩

set_option maxHeartbeats 400000 in
theorem pick_any (b n : Nat) (xs : List Int) (w : World) (h : Str w sb a len cap zs at_) (hat : at_ ≤ 1000000000000) (hx : xs.length = n) (hn : 1 ≤ n) (hn2 : n ≤ 100) (hb : b ≠ sb) (hc : ∀ i, i < n → w.cell? ⟨b, i, none⟩ = some (.int .i64 (xs.getD i 0))) :
    Calls Tryz.prog 48 #[.pointer (some ⟨sb, 0, none⟩), .slice (some ⟨b, 0, none⟩) n n] w (SomeInt sb a len cap zs at_ 1 (· ∈ xs) w) := by
  have H := hid h
  have HC := hid hc
  have HX := hid hx
  clear h hc hx
  go_enter Tryz.func48, Tryz.ntmps48
  go_wp2_with fail
  refine (next_any sb a len cap zs at_ _ _ H.out hat (by omega) (by omega)).mono ?_
  rintro e w' ⟨⟨r, rfl, h0, h1⟩, hw⟩
  have hc : w'.cell? ⟨b, r.toNat, none⟩ = some (.int .i64 (xs.getD r.toNat 0)) := hw.ext.cell_some (HC.out _ (by omega)) hb
  have hm : Hid (xs.getD r.toNat 0 ∈ xs) := hid (by
    have hk : r.toNat < xs.length := by rw [HX.out]; omega
    rw [List.getD_eq_getElem?_getD, List.getElem?_eq_getElem hk, Option.getD_some]; exact List.getElem_mem hk)
  have HW := hid hw
  clear hw
  generalize xs.getD r.toNat 0 = z at hc hm
  go_wp2_with fail
  go_ret
  exact ⟨⟨_, hm.out, rfl⟩, HW.out⟩

set_option maxHeartbeats 400000 in
theorem some_any (b n : Nat) (xs : List ByteArray) (w : World) (h : Str w sb a len cap zs at_) (hat : at_ ≤ 1000000000000) (hx : xs.length = n) (hn : 1 ≤ n) (hn2 : n ≤ 100) (hb : b ≠ sb) (hc : ∀ i, i < n → w.cell? ⟨b, i, none⟩ = some (.string (xs.getD i ByteArray.empty))) :
    Calls Tryz.prog 22 #[.pointer (some ⟨sb, 0, none⟩), .slice (some ⟨b, 0, none⟩) n n] w (SomeStr sb a len cap zs at_ 1 (· ∈ xs) w) := by
  have H := hid h
  have HC := hid hc
  have HX := hid hx
  clear h hc hx
  go_enter Tryz.func22, Tryz.ntmps22
  go_wp2_with fail
  refine (next_any sb a len cap zs at_ _ _ H.out hat (by omega) (by omega)).mono ?_
  rintro e w' ⟨⟨r, rfl, h0, h1⟩, hw⟩
  have hc : w'.cell? ⟨b, r.toNat, none⟩ = some (.string (xs.getD r.toNat ByteArray.empty)) := hw.ext.cell_some (HC.out _ (by omega)) hb
  have hm : Hid (xs.getD r.toNat ByteArray.empty ∈ xs) := hid (by
    have hk : r.toNat < xs.length := by rw [HX.out]; omega
    rw [List.getD_eq_getElem?_getD, List.getElem?_eq_getElem hk, Option.getD_some]; exact List.getElem_mem hk)
  have HW := hid hw
  clear hw
  generalize xs.getD r.toNat ByteArray.empty = z at hc hm
  go_wp2_with fail
  go_ret
  exact ⟨⟨_, hm.out, rfl⟩, HW.out⟩

theorem cell_new_row (w : World) (C : Array Value) (T : TypeId) (i : Nat) (v : Value) (h : C[i]? = some v) : (w.alloc (.cells C T)).cell? ⟨w.heap.size, i, none⟩ = some v := by
  have hb : (w.alloc (.cells C T)).heap[w.heap.size]? = some (.cells C T (0, 0)) := by show (w.heap.push _)[_]? = _; simp
  rw [cell_of_row _ _ _ _ _ _ hb, h]

theorem heap_new (w : World) (o : Obj) : (w.alloc o).heap[w.heap.size]? = some o := by show (w.heap.push _)[_]? = _; simp
theorem Ext.heap {S : Nat → Prop} {w w' : World} (e : Ext S w w') {b : Nat} {o : Obj} (h : w.heap[b]? = some o) (hs : ¬ S b) : w'.heap[b]? = some o :=
  (e.block b (Array.getElem?_eq_some_iff.1 h).1 hs).trans h
/-- A store into a new block. -/
theorem Went.setCell {d : Int} {w w' : World} (h : Went sb a len cap zs at_ d w w') {p : Addr} (hp : w.heap.size ≤ p.block) (hs : Str w sb a len cap zs at_) (v : Value) : Went sb a len cap zs at_ d w (w'.setCell p v) := by
  obtain ⟨e, x, hx, hl⟩ := h
  refine ⟨e.setCell (.inr hp) v, x, ⟨?_, ?_, ?_, ?_, hx.lo, hx.sep⟩, hl⟩
  · rw [World.cell?_setCell_other _ _ _ _ (by intro e; rw [e] at hp; have := hs.size; simp at hp; omega)]; exact hx.c0
  · rw [World.cell?_setCell_other _ _ _ _ (by intro e; rw [e] at hp; have := hs.size; simp at hp; omega)]; exact hx.c1
  · rw [World.frozen?_setCell]; exact hx.f1
  · exact hs.row.ext (e.setCell (.inr hp) v) (fun y hy hc => Nat.ne_of_lt (hs.sep y hy hc))

/-- What the walk wants of a block of four cells. -/
theorem blk4 {w : World} {b : Nat} {v0 v1 v2 v3 : Value} {T : TypeId} (h : w.heap[b]? = some (.cells #[v0, v1, v2, v3] T (0, 0))) :
    (w.cell? ⟨b, 0, none⟩ = some v0 ∧ w.cell? ⟨b, 1, none⟩ = some v1 ∧ w.cell? ⟨b, 2, none⟩ = some v2 ∧ w.cell? ⟨b, 3, none⟩ = some v3) ∧
    (w.frozen? ⟨b, 0, none⟩ = false ∧ w.frozen? ⟨b, 1, none⟩ = false ∧ w.frozen? ⟨b, 2, none⟩ = false ∧ w.frozen? ⟨b, 3, none⟩ = false) := by
  refine ⟨⟨?_, ?_, ?_, ?_⟩, ?_, ?_, ?_, ?_⟩ <;> first | (rw [cell_of_row _ _ _ _ _ _ h]; rfl) | simp [World.frozen?, h]

/-- Pick at a list that was just written out. -/
theorem pick_new (n : Nat) (xs : List Int) (T : TypeId) (w : World) (h : Str w sb a len cap zs at_) (hat : at_ ≤ 1000000000000) (hx : xs.length = n) (hn : 1 ≤ n) (hn2 : n ≤ 100) :
    Calls Tryz.prog 48 #[.pointer (some ⟨sb, 0, none⟩), .slice (some ⟨w.heap.size, 0, none⟩) n n] (w.alloc (.cells (xs.map (Value.int .i64)).toArray T)) (SomeInt sb a len cap zs at_ 1 (· ∈ xs) w) := by
  refine (pick_any w.heap.size n xs _ (h.alloc _) hat hx hn hn2 (by have := h.size; omega) ?_).mono ?_
  · intro i hi
    refine cell_new_row _ _ _ _ _ ?_
    have : i < xs.length := by omega
    simp [List.getElem?_eq_getElem this, List.getD_eq_getElem?_getD]
  · rintro e w' ⟨hr, hw⟩
    exact ⟨hr, ((Ext.refl w).alloc _).trans hw.1, hw.2⟩
theorem some_new (n : Nat) (xs : List ByteArray) (T : TypeId) (w : World) (h : Str w sb a len cap zs at_) (hat : at_ ≤ 1000000000000) (hx : xs.length = n) (hn : 1 ≤ n) (hn2 : n ≤ 100) :
    Calls Tryz.prog 22 #[.pointer (some ⟨sb, 0, none⟩), .slice (some ⟨w.heap.size, 0, none⟩) n n] (w.alloc (.cells (xs.map Value.string).toArray T)) (SomeStr sb a len cap zs at_ 1 (· ∈ xs) w) := by
  refine (some_any w.heap.size n xs _ (h.alloc _) hat hx hn hn2 (by have := h.size; omega) ?_).mono ?_
  · intro i hi
    refine cell_new_row _ _ _ _ _ ?_
    have : i < xs.length := by omega
    simp [List.getElem?_eq_getElem this, List.getD_eq_getElem?_getD]
  · rintro e w' ⟨hr, hw⟩
    exact ⟨hr, ((Ext.refl w).alloc _).trans hw.1, hw.2⟩
theorem pick_at (n : Nat) (xs : List Int) (T : TypeId) (B : Nat) (w : World) (hB : w.heap.size = B) (h : Str w sb a len cap zs at_) (hat : at_ ≤ 1000000000000) (hx : xs.length = n) (hn : 1 ≤ n) (hn2 : n ≤ 100) :
    Calls Tryz.prog 48 #[.pointer (some ⟨sb, 0, none⟩), .slice (some ⟨B, 0, none⟩) n n] (w.alloc (.cells (xs.map (Value.int .i64)).toArray T)) (SomeInt sb a len cap zs at_ 1 (· ∈ xs) w) := by
  subst hB; exact pick_new n xs T w h hat hx hn hn2
theorem some_at (n : Nat) (xs : List ByteArray) (T : TypeId) (B : Nat) (w : World) (hB : w.heap.size = B) (h : Str w sb a len cap zs at_) (hat : at_ ≤ 1000000000000) (hx : xs.length = n) (hn : 1 ≤ n) (hn2 : n ≤ 100) :
    Calls Tryz.prog 22 #[.pointer (some ⟨sb, 0, none⟩), .slice (some ⟨B, 0, none⟩) n n] (w.alloc (.cells (xs.map Value.string).toArray T)) (SomeStr sb a len cap zs at_ 1 (· ∈ xs) w) := by
  subst hB; exact some_new n xs T w h hat hx hn hn2
end
end Go.Proofs.YtckbhlnncokigaaGreat
/- The stream's choices: Odd and Leaf. -/
namespace Go.Proofs.YtckbhlnncokigaaGreat
open Go.RowKit
section
variable {sb : Nat} {a : Option Addr} {len cap : Nat} {zs : List Int} {at_ : Int}
set_option maxHeartbeats 400000 in
theorem odd_any (lo hi : Int) (w : World) (h : Str w sb a len cap zs at_) (hat : at_ ≤ 100000000000) (hlo : 0 ≤ lo) (hl : lo ≤ hi) (hhi : hi ≤ 1000000) :
    Calls Tryz.prog 50 #[.pointer (some ⟨sb, 0, none⟩), .int .i64 lo, .int .i64 hi] w (SomeInt sb a len cap zs at_ 2 (fun r => -1099511627776 ≤ r ∧ r ≤ 1099511627776) w) := by
  have H := hid h
  have HS := h.size
  clear h
  go_enter Tryz.func50, Tryz.ntmps50
  go_wp2_with fail
  refine (flip_any 12 _ H.out (by omega) (by omega) (by omega)).mono ?_
  rintro e w' ⟨⟨r, rfl⟩, hw⟩
  have HW := hid hw
  have hz : w.heap.size ≤ w'.heap.size := hw.ext.size
  clear hw
  obtain ⟨at1, h1, hle⟩ := HW.out.2
  have H1 := hid h1
  clear h1
  cases r
  · go_wp2_with fail
    refine (range_any lo hi _ H1.out (by omega) (by omega) hl (by omega)).mono ?_
    rintro e w2 ⟨⟨r, hr, rfl⟩, hw2⟩
    have HW2 := hid hw2
    clear hw2
    go_wp2_with fail
    go_ret
    exact ⟨⟨_, ⟨by omega, by omega⟩, rfl⟩, Went.trans HW.out.1 hle HW2.out trivial⟩
  · go_wp2_with fail
    refine (pick_new 6 [lo - 1, hi + 1, lo, hi, -1099511627776, 1099511627776] _ _ H1.out (by omega) rfl (by omega) (by omega)).mono ?_
    rintro e w2 ⟨⟨r, hr, rfl⟩, hw2⟩
    have HW2 := hid hw2
    clear hw2
    go_wp2_with fail
    go_ret
    refine ⟨⟨_, ?_, rfl⟩, Went.trans HW.out.1 hle HW2.out trivial⟩
    simp at hr
    omega

/-- A number or a variable, as Leaf makes it. -/
def LeafOk (op n : Int) (name : ByteArray) : Prop := (op = 1 ∧ 0 ≤ n ∧ n ≤ 999 ∧ name = ⟨#[]⟩) ∨ (op = 2 ∧ n = 0 ∧ ∃ c : UInt8, name = ⟨#[c]⟩ ∧ 120 ≤ c ∧ c ≤ 122)
def SomeLeaf (sb : Nat) (a : Option Addr) (len cap : Nat) (zs : List Int) (at_ d : Int) (w : World) (e : Ending) (w' : World) : Prop :=
  (∃ op n name, LeafOk op n name ∧ e = .returned (.agg #[.int .i64 op, .int .i64 n, .string name, .slice none 0 0])) ∧ Went sb a len cap zs at_ d w w'

set_option maxHeartbeats 400000 in
theorem leaf_any (w : World) (h : Str w sb a len cap zs at_) (hat : at_ ≤ 100000000000) :
    Calls Tryz.prog 97 #[.pointer (some ⟨sb, 0, none⟩)] w (SomeLeaf sb a len cap zs at_ 2 w) := by
  have H := hid h
  have HS := h.size
  clear h
  go_enter Tryz.func97, Tryz.ntmps97
  go_wp2_with fail
  refine (flip_any 2 _ (H.out.alloc _) (by omega) (by omega) (by omega)).mono ?_
  rintro e w' ⟨⟨r, rfl⟩, hw⟩
  have hb := hw.ext.heap (heap_new w _) (by omega)
  obtain ⟨⟨q0, q1, q2, q3⟩, f0, f1, f2, f3⟩ := blk4 hb
  have HB := hid hb
  clear hb
  have HW := hid hw
  have hz : w.heap.size + 1 ≤ w'.heap.size := by have := hw.ext.size; simpa using this
  clear hw
  obtain ⟨at1, h1, hle⟩ := HW.out.2
  have H1 := hid h1
  clear h1
  cases r
  · go_wp2_with fail
    refine (some_new 4 [⟨#[120]⟩, ⟨#[121]⟩, ⟨#[120]⟩, ⟨#[122]⟩] _ _ H1.out (by omega) rfl (by omega) (by omega)).mono ?_
    rintro e w2 ⟨⟨r, hr, rfl⟩, hw2⟩
    have hb := hw2.ext.heap HB.out (by omega)
    obtain ⟨⟨q0', q1', q2', q3'⟩, f0', f1', f2', f3'⟩ := blk4 hb
    clear hb q0 q1 q2 q3 f0 f1 f2 f3
    have HW2 := hid hw2
    have hz2 : w.heap.size + 1 ≤ w2.heap.size := Nat.le_trans hz hw2.ext.size
    clear hw2
    go_wp2_with fail
    refine bodyPost_ret (v := .agg #[.int .i64 2, .int .i64 0, .string r, .slice none 0 0]) (by simp [results, Tryz.results97, go_sem, q0', q1', q2', q3']) rfl ⟨⟨2, 0, r, .inr ⟨rfl, rfl, ?_⟩, rfl⟩, ?_⟩
    · simp at hr
      rcases hr with rfl | rfl | rfl | rfl
      · exact ⟨120, rfl, by decide, by decide⟩
      · exact ⟨121, rfl, by decide, by decide⟩
      · exact ⟨120, rfl, by decide, by decide⟩
      · exact ⟨122, rfl, by decide, by decide⟩
    · have HT : Went sb a len cap zs at_ 2 w w2 := Went.trans (((Ext.refl w).alloc _).trans HW.out.1) hle HW2.out trivial
      exact (((HT.setCell (p := ⟨_, 0, none⟩) (Nat.le_refl _) H.out _).setCell (p := ⟨_, 1, none⟩) (Nat.le_refl _) H.out _).setCell (p := ⟨_, 2, none⟩) (Nat.le_refl _) H.out _).setCell (p := ⟨_, 3, none⟩) (Nat.le_refl _) H.out _
  · go_wp2_with fail
    refine (pick_new 5 [0, 1, 2, 5, 999] _ _ H1.out (by omega) rfl (by omega) (by omega)).mono ?_
    rintro e w2 ⟨⟨r, hr, rfl⟩, hw2⟩
    have hb := hw2.ext.heap HB.out (by omega)
    obtain ⟨⟨q0', q1', q2', q3'⟩, f0', f1', f2', f3'⟩ := blk4 hb
    clear hb q0 q1 q2 q3 f0 f1 f2 f3
    have HW2 := hid hw2
    have hz2 : w.heap.size + 1 ≤ w2.heap.size := Nat.le_trans hz hw2.ext.size
    clear hw2
    go_wp2_with fail
    refine bodyPost_ret (v := .agg #[.int .i64 1, .int .i64 r, .string ⟨#[]⟩, .slice none 0 0]) (by simp [results, Tryz.results97, go_sem, q0', q1', q2', q3']) rfl ⟨⟨1, r, ⟨#[]⟩, .inl ⟨rfl, ?_, ?_, rfl⟩, rfl⟩, ?_⟩
    · simp at hr; omega
    · simp at hr; omega
    · have HT : Went sb a len cap zs at_ 2 w w2 := Went.trans (((Ext.refl w).alloc _).trans HW.out.1) hle HW2.out trivial
      exact (((HT.setCell (p := ⟨_, 0, none⟩) (Nat.le_refl _) H.out _).setCell (p := ⟨_, 1, none⟩) (Nat.le_refl _) H.out _).setCell (p := ⟨_, 2, none⟩) (Nat.le_refl _) H.out _).setCell (p := ⟨_, 3, none⟩) (Nat.le_refl _) H.out _
end
end Go.Proofs.YtckbhlnncokigaaGreat
