/- Texts joined: Base, Stream, Pick. -/
import Derived.Test.YtkgciohebloffaaGreatProg
import Derived.WalkKit
import Derived.WalkSpells
import Derived.WalkLawsBesides
import Derived.Outline
import Derived.Deep.QuietTactic
import Derived.BigQuiet
/- Small words that all walks of this seat use: hidden facts, what a loop over a slice that came in is told of it, and what a call may have changed. -/
namespace Go.Proofs.YtkgciohebloffaaGreat
open Go.RowKit

theorem hid {p : Prop} (h : p) : Hid p := h
theorem ret_int {k : IntKind} {a b : Int} (h : a = b) : Ending.returned (.int k a) = .returned (.int k b) := by rw [h]
theorem ret_bool {a b : Bool} (h : a = b) : Ending.returned (.bool a) = .returned (.bool b) := by rw [h]

/-- A slice of ints that came in: it has no room; or it leads to a row of 'cap' cells. -/
def IsRow (w : World) (a : Option Addr) (len cap : Nat) (zs : List Int) : Prop :=
  (len = 0 ∧ cap = 0 ∧ zs = []) ∨
  ∃ b off, a = some ⟨b, off, none⟩ ∧ 0 < cap ∧ len ≤ cap ∧ cap ≤ 9223372036854775807 ∧ zs.length = cap ∧ (∀ i, i < zs.length → w.cell? ⟨b, off + i, none⟩ = some (.int .i64 (zs.getD i 0))) ∧ ∀ i, -9223372036854775808 ≤ zs.getD i 0 ∧ zs.getD i 0 ≤ 9223372036854775807

/-- All that was there is as it was, but for what lies in the blocks S. -/
structure Ext (S : Nat → Prop) (w w' : World) : Prop where
  os : w'.os = w.os
  tape : w'.tape = w.tape
  output : w'.output = w.output
  size : w.heap.size ≤ w'.heap.size
  block : ∀ k, k < w.heap.size → ¬ S k → w'.heap[k]? = w.heap[k]?

section
variable {S : Nat → Prop}
theorem Ext.refl (w : World) : Ext S w w := ⟨rfl, rfl, rfl, Nat.le_refl _, fun _ _ _ => rfl⟩
theorem Ext.trans {a b c : World} (h : Ext S a b) (k : Ext S b c) : Ext S a c :=
  ⟨k.os.trans h.os, k.tape.trans h.tape, k.output.trans h.output, Nat.le_trans h.size k.size, fun i hi hs => (k.block i (Nat.lt_of_lt_of_le hi h.size) hs).trans (h.block i hi hs)⟩
theorem Ext.mono {S' : Nat → Prop} {a b : World} (h : Ext S a b) (hs : ∀ k, k < a.heap.size → S k → S' k) : Ext S' a b :=
  ⟨h.os, h.tape, h.output, h.size, fun i hi k => h.block i hi (fun x => k (hs i hi x))⟩
/-- Blocks that the first step made may be written by the second one. -/
theorem Ext.trans_new {S' : Nat → Prop} {a b c : World} (h : Ext S a b) (k : Ext S' b c) (hs : ∀ i, i < a.heap.size → S' i → S i) : Ext S a c :=
  ⟨k.os.trans h.os, k.tape.trans h.tape, k.output.trans h.output, Nat.le_trans h.size k.size, fun i hi hn => (k.block i (Nat.lt_of_lt_of_le hi h.size) (fun x => hn (hs i hi x))).trans (h.block i hi hn)⟩
theorem Ext.drew {a w : World} (h : Ext S a w) : Ext S a w.drew := ⟨h.os, h.tape, h.output, h.size, h.block⟩
theorem Ext.drewN {a w : World} (h : Ext S a w) (n : Nat) : Ext S a (w.drewN n) := ⟨h.os, h.tape, h.output, h.size, h.block⟩
theorem Ext.cell {w w' : World} (h : Ext S w w') {p : Addr} (hp : p.block < w.heap.size) (hs : ¬ S p.block) : w'.cell? p = w.cell? p := World.cell?_of_block (w := w) (h.block p.block hp hs)
theorem Ext.frozen {w w' : World} (h : Ext S w w') {p : Addr} (hp : p.block < w.heap.size) (hs : ¬ S p.block) : w'.frozen? p = w.frozen? p := World.frozen?_of_block (w := w) (h.block p.block hp hs)
theorem Ext.cell_some {w w' : World} (h : Ext S w w') {p : Addr} {v : Value} (hv : w.cell? p = some v) (hs : ¬ S p.block) : w'.cell? p = some v :=
  (h.cell (World.block_lt_of_cell? _ _ hv) hs).trans hv
theorem Ext.alloc {a w : World} (h : Ext S a w) (o : Obj) : Ext S a (w.alloc o) :=
  h.trans ⟨rfl, rfl, rfl, by simp, fun k hk _ => Below.heap_alloc _ _ _ hk⟩
theorem Ext.setCell {a w : World} (h : Ext S a w) {p : Addr} (hp : S p.block ∨ a.heap.size ≤ p.block) (u : Value) : Ext S a (w.setCell p u) :=
  ⟨h.os, h.tape, h.output, by simpa [World.setCell] using h.size, fun k hk hs => by
    rw [Below.heap_setCell _ _ _ _ (by rcases hp with hp | hp; exact fun e => hs (e ▸ hp); omega)]; exact h.block k hk hs⟩
theorem Ext.grown {a w w' : World} {row : Option Nat} (h : Ext S a w) (hg : w.grownBy w' row) (hr : ∀ k, row = some k → S k ∨ a.heap.size ≤ k) : Ext S a w' :=
  ⟨hg.os.trans h.os, hg.tape.trans h.tape, hg.output.trans h.output, Nat.le_trans h.size hg.size, fun k hk hs =>
    (hg.block k (Nat.lt_of_lt_of_le hk h.size) (fun e => by rcases hr k e.symm with x | x; exact hs x; omega)).trans (h.block k hk hs)⟩
theorem Ext.of_below {w w' : World} (h : Below w.heap.size w w') : Ext S w w' := ⟨h.os, h.tape, h.output, h.size, fun k hk _ => h.block k hk⟩
theorem Ext.below {a b w : World} (h : Ext S b w) (k : Below a.heap.size a b) (hs : ∀ i, i < a.heap.size → ¬ S i) : Below a.heap.size a w :=
  ⟨h.os.trans k.os, h.tape.trans k.tape, h.output.trans k.output, Nat.le_trans k.size h.size, fun i hi => (h.block i (Nat.lt_of_lt_of_le hi k.size) (hs i hi)).trans (k.block i hi)⟩
end

theorem IsRow.ext {S : Nat → Prop} {w w' : World} {a : Option Addr} {len cap : Nat} {zs : List Int} (h : IsRow w a len cap zs) (e : Ext S w w') (hs : ∀ x, a = some x → 0 < cap → ¬ S x.block) : IsRow w' a len cap zs := by
  rcases h with h | ⟨b, off, rfl, h0, h1, h2, h3, h4, h5⟩
  · exact .inl h
  · exact .inr ⟨b, off, rfl, h0, h1, h2, h3, fun i hi => e.cell_some (h4 i hi) (hs ⟨b, off, none⟩ rfl h0), h5⟩

/-! ### Go's remainder -/
theorem tmod_lo (x n : Int) (hn : 1 ≤ n) : -n < x.tmod n := by have := Int.lt_tmod_of_pos x (show 0 < n by omega); omega
theorem tmod_hi (x n : Int) (hn : 1 ≤ n) : x.tmod n < n := Int.tmod_lt_of_pos x (by omega)
theorem tmod_emod (x n : Int) (hn : 1 ≤ n) : x.tmod n = x % n ∨ (x % n ≠ 0 ∧ x.tmod n = x % n - n) := by
  have := @Int.tmod_eq_emod x n
  rw [this]
  split
  · left; simp
  · rename_i h
    right
    refine ⟨fun e => h (.inr (Int.dvd_of_emod_eq_zero e)), by omega⟩
theorem tmod_neg_emod (x n : Int) (hn : 1 ≤ n) (h : x.tmod n < 0) : x.tmod n + n = x % n := by
  have h0 := Int.emod_nonneg x (show n ≠ 0 by omega)
  rcases tmod_emod x n hn with e | ⟨_, e⟩ <;> omega
theorem tmod_pos_emod (x n : Int) (hn : 1 ≤ n) (h : 0 ≤ x.tmod n) : x.tmod n = x % n := by
  have h1 := Int.emod_lt_of_pos x (show 0 < n by omega)
  rcases tmod_emod x n hn with e | ⟨_, e⟩ <;> omega
end Go.Proofs.YtkgciohebloffaaGreat
/- The stream's own methods: each returns some number in its range, and changes the stream's counter alone. -/
namespace Go.Proofs.YtkgciohebloffaaGreat
open Go.RowKit

set_option maxHeartbeats 400000 in
theorem below_any (x n : Int) (w : World) (_hx : -9223372036854775808 ≤ x) (_hx' : x ≤ 9223372036854775807) (hn : 1 ≤ n) (_hn2 : n ≤ 4611686018427387904) :
    Calls Tryz.prog 98 #[.int .i64 x, .int .i64 n] w fun e w' => e = .returned (.int .i64 (x % n)) ∧ w = w' := by
  have h1 := tmod_lo x n hn
  have h2 := tmod_hi x n hn
  by_cases h : x.tmod n < 0
  · have h3 := hid (tmod_neg_emod x n hn h)
    go_enter Tryz.func98, Tryz.ntmps98
    go_wp2
    go_ret
    exact ⟨ret_int h3.out, rfl⟩
  · have h3 := hid (tmod_pos_emod x n hn (by omega))
    go_enter Tryz.func98, Tryz.ntmps98
    go_wp2
    go_ret
    exact ⟨ret_int h3.out, rfl⟩

/-- The stream lies in block sb: its list, and its counter. -/
structure Str (w : World) (sb : Nat) (a : Option Addr) (len cap : Nat) (zs : List Int) (at_ : Int) : Prop where
  c0 : w.cell? ⟨sb, 0, none⟩ = some (.slice a len cap)
  c1 : w.cell? ⟨sb, 1, none⟩ = some (.int .i64 at_)
  f1 : w.frozen? ⟨sb, 1, none⟩ = false
  row : IsRow w a len cap zs
  lo : 0 ≤ at_
  sep : ∀ x, a = some x → 0 < cap → x.block < sb

theorem Str.size {w : World} {sb : Nat} {a : Option Addr} {len cap : Nat} {zs : List Int} {at_ : Int} (h : Str w sb a len cap zs at_) : sb < w.heap.size := World.block_lt_of_cell? _ _ h.c0
theorem Str.drewN {w : World} {sb : Nat} {a : Option Addr} {len cap : Nat} {zs : List Int} {at_ : Int} (h : Str w sb a len cap zs at_) (n : Nat) : Str (w.drewN n) sb a len cap zs at_ := ⟨h.c0, h.c1, h.f1, h.row, h.lo, h.sep⟩

theorem wrap64_lo (x : Int) : -9223372036854775808 ≤ wrap64 x := by unfold wrap64; omega
theorem wrap64_hi (x : Int) : wrap64 x ≤ 9223372036854775807 := by unfold wrap64; omega

/-- What a method leaves that counts on by d at most. -/
def Went (sb : Nat) (a : Option Addr) (len cap : Nat) (zs : List Int) (at_ : Int) (d : Int) (w w' : World) : Prop :=
  Ext (· = sb) w w' ∧ ∃ at' : Int, Str w' sb a len cap zs at' ∧ at' ≤ at_ + d

def SomeNext (sb : Nat) (a : Option Addr) (len cap : Nat) (zs : List Int) (at_ : Int) (n : Int) (w : World) (e : Ending) (w' : World) : Prop :=
  (∃ r : Int, e = .returned (.int .i64 r) ∧ 0 ≤ r ∧ r < n) ∧ Went sb a len cap zs at_ 1 w w'

theorem setCell_cell0 {w : World} {sb : Nat} {v u x : Value} (c0 : w.cell? ⟨sb, 0, none⟩ = some v) (_c1 : w.cell? ⟨sb, 1, none⟩ = some u) : (w.setCell ⟨sb, 1, none⟩ x).cell? ⟨sb, 0, none⟩ = some v :=
  (World.cell?_setCell_other _ _ _ _ (by simp)).trans c0

theorem Str.counted {w : World} {sb : Nat} {a : Option Addr} {len cap : Nat} {zs : List Int} {at_ : Int} (h : Str w sb a len cap zs at_) :
    Ext (· = sb) w (w.setCell ⟨sb, 1, none⟩ (.int .i64 (at_ + 1))) ∧ Str (w.setCell ⟨sb, 1, none⟩ (.int .i64 (at_ + 1))) sb a len cap zs (at_ + 1) := by
  have e : Ext (· = sb) w (w.setCell ⟨sb, 1, none⟩ (.int .i64 (at_ + 1))) := (Ext.refl (S := (· = sb)) w).setCell (p := ⟨sb, 1, none⟩) (.inl rfl) _
  refine ⟨e, setCell_cell0 h.c0 h.c1, ?_, ?_, h.row.ext e (fun x hx hc => Nat.ne_of_lt (h.sep x hx hc)), by have := h.lo; omega, h.sep⟩
  · exact World.cell?_setCell_same _ _ _ h.c1
  · rw [World.frozen?_setCell]; exact h.f1

set_option maxHeartbeats 400000 in
theorem next_any (sb : Nat) (a : Option Addr) (len cap : Nat) (zs : List Int) (at_ n : Int) (w : World) (h : Str w sb a len cap zs at_) (hat : at_ ≤ 1000000000000) (hn : 1 ≤ n) (hn2 : n ≤ 4611686018427387904) :
    Calls Tryz.prog 49 #[.pointer (some ⟨sb, 0, none⟩), .int .i64 n] w (SomeNext sb a len cap zs at_ n w) := by
  have H := hid h.counted
  obtain ⟨c0, c1, f1, row, lo, sep⟩ := h
  by_cases hl : len = 0
  · subst hl
    go_enter Tryz.func49, Tryz.ntmps49
    go_wp2_with (go_at_call 98; refine (below_any _ _ _ (by first | exact wrap64_lo _ | omega) (by first | exact wrap64_hi _ | omega) hn hn2).mono ?_; rintro e w' ⟨rfl, rfl⟩)
    go_ret
    exact ⟨⟨_, rfl, Int.emod_nonneg _ (by omega), Int.emod_lt_of_pos _ (by omega)⟩, H.out.1, _, H.out.2, by omega⟩
  · rcases row with ⟨h0, _⟩ | ⟨b, off, rfl, hc0, hlc, hcm, hz, hcell, hwf⟩
    · exact absurd h0 hl
    have hl1 : (1 : Int) ≤ (len : Int) := by omega
    have hlb : ((len : Int) == 0) = false := by simp; omega
    have u0 : 0 ≤ at_ % len := Int.emod_nonneg _ (by omega)
    have u1 : at_ % len < len := Int.emod_lt_of_pos _ (by omega)
    have hc : w.cell? ⟨b, off + (at_ % len).toNat, none⟩ = some (.int .i64 (zs.getD (at_ % len).toNat 0)) := hcell _ (by omega)
    have hbs : b ≠ sb := Nat.ne_of_lt (sep _ rfl hc0)
    obtain ⟨hz1, hz2⟩ := hwf (at_ % len).toNat
    have H2 := hid hz
    generalize zs.getD (at_ % len).toNat 0 = z at hc hz1 hz2
    clear hcell hwf sep hl hz
    go_enter Tryz.func49, Tryz.ntmps49
    go_wp2_with fail
    go_quiet (fail)
    go_wp2_with fail
    go_quiet (fail)
    go_wp2_with fail
    refine (below_any _ _ _ hz1 hz2 (by omega) (by omega)).mono ?_
    rintro e w' ⟨rfl, rfl⟩
    go_wp2_with fail
    refine (below_any _ _ _ (by first | exact wrap64_lo _ | omega) (by first | exact wrap64_hi _ | omega) hn hn2).mono ?_
    rintro e w' ⟨rfl, rfl⟩
    go_wp2_with fail
    go_ret
    exact ⟨⟨_, rfl, Int.emod_nonneg _ (by omega), Int.emod_lt_of_pos _ (by omega)⟩, H.out.1.drewN _, _, H.out.2.drewN _, by omega⟩
end Go.Proofs.YtkgciohebloffaaGreat
/- The stream's choices: Flip, Range, Pick, Some, Odd. -/
namespace Go.Proofs.YtkgciohebloffaaGreat
open Go.RowKit

section
variable {sb : Nat} {a : Option Addr} {len cap : Nat} {zs : List Int} {at_ : Int}
theorem Went.ext {d : Int} {w w' : World} (h : Went sb a len cap zs at_ d w w') : Ext (· = sb) w w' := h.1
theorem Went.trans {d d' : Int} {at' : Int} {w w1 w2 : World} (e : Ext (· = sb) w w1) (hle : at' ≤ at_ + d) (h : Went sb a len cap zs at' d' w1 w2) (_ : True) : Went sb a len cap zs at_ (d + d') w w2 :=
  ⟨e.trans h.1, by obtain ⟨x, hx, hl⟩ := h.2; exact ⟨x, hx, by omega⟩⟩
theorem Went.refl {d : Int} {w : World} (hd : 0 ≤ d) (h : Str w sb a len cap zs at_) : Went sb a len cap zs at_ d w w := ⟨Ext.refl w, at_, h, by omega⟩
theorem Went.mono {d d' : Int} {w w' : World} (h : Went sb a len cap zs at_ d w w') (hd : d ≤ d') : Went sb a len cap zs at_ d' w w' := ⟨h.1, by obtain ⟨x, hx, hl⟩ := h.2; exact ⟨x, hx, by omega⟩⟩
theorem Str.alloc {w : World} (h : Str w sb a len cap zs at_) (o : Obj) : Str (w.alloc o) sb a len cap zs at_ := by
  have e : Ext (fun _ => False) w (w.alloc o) := (Ext.refl w).alloc o
  exact ⟨e.cell_some h.c0 id, e.cell_some h.c1 id, (e.frozen (p := ⟨sb, 1, none⟩) h.size id).trans h.f1, h.row.ext e (fun _ _ _ => id), h.lo, h.sep⟩
/-- What leaves the stream's block alone leaves the stream. -/
theorem Str.ext {S : Nat → Prop} {w w' : World} (h : Str w sb a len cap zs at_) (e : Ext S w w') (h1 : ¬ S sb) (h2 : ∀ b, b < sb → ¬ S b) : Str w' sb a len cap zs at_ :=
  ⟨e.cell_some h.c0 h1, e.cell_some h.c1 h1, (e.frozen (p := ⟨sb, 1, none⟩) h.size h1).trans h.f1, h.row.ext e (fun x hx hc => h2 _ (h.sep x hx hc)), h.lo, h.sep⟩

def SomeBool (sb : Nat) (a : Option Addr) (len cap : Nat) (zs : List Int) (at_ d : Int) (w : World) (e : Ending) (w' : World) : Prop :=
  (∃ r : Bool, e = .returned (.bool r)) ∧ Went sb a len cap zs at_ d w w'
def SomeInt (sb : Nat) (a : Option Addr) (len cap : Nat) (zs : List Int) (at_ d : Int) (P : Int → Prop) (w : World) (e : Ending) (w' : World) : Prop :=
  (∃ r : Int, P r ∧ e = .returned (.int .i64 r)) ∧ Went sb a len cap zs at_ d w w'
def SomeStr (sb : Nat) (a : Option Addr) (len cap : Nat) (zs : List Int) (at_ d : Int) (P : ByteArray → Prop) (w : World) (e : Ending) (w' : World) : Prop :=
  (∃ r : ByteArray, P r ∧ e = .returned (.string r)) ∧ Went sb a len cap zs at_ d w w'

set_option maxHeartbeats 400000 in
theorem flip_any (n : Int) (w : World) (h : Str w sb a len cap zs at_) (hat : at_ ≤ 1000000000000) (hn : 1 ≤ n) (hn2 : n ≤ 4611686018427387904) :
    Calls Tryz.prog 23 #[.pointer (some ⟨sb, 0, none⟩), .int .i64 n] w (SomeBool sb a len cap zs at_ 1 w) := by
  have H := hid h
  clear h
  go_enter Tryz.func23, Tryz.ntmps23
  go_wp2_with fail
  refine (next_any sb a len cap zs at_ n _ H.out hat hn hn2).mono ?_
  rintro e w' ⟨⟨r, rfl, h0, h1⟩, hw⟩
  have HW := hid hw
  clear hw
  go_wp2_with fail
  go_ret
  exact ⟨⟨_, rfl⟩, HW.out⟩

set_option maxHeartbeats 400000 in
theorem range_any (lo hi : Int) (w : World) (h : Str w sb a len cap zs at_) (hat : at_ ≤ 1000000000000) (hlo : -1000000000000 ≤ lo) (hl : lo ≤ hi) (hhi : hi ≤ 1000000000000) :
    Calls Tryz.prog 52 #[.pointer (some ⟨sb, 0, none⟩), .int .i64 lo, .int .i64 hi] w (SomeInt sb a len cap zs at_ 1 (fun r => lo ≤ r ∧ r ≤ hi) w) := by
  have H := hid h
  clear h
  go_enter Tryz.func52, Tryz.ntmps52
  go_wp2_with fail
  refine (next_any sb a len cap zs at_ _ _ H.out hat (by omega) (by omega)).mono ?_
  rintro e w' ⟨⟨r, rfl, h0, h1⟩, hw⟩
  have HW := hid hw
  clear hw
  go_wp2_with fail
  go_ret
  exact ⟨⟨_, ⟨by omega, by omega⟩, rfl⟩, HW.out⟩

set_option maxHeartbeats 400000 in
theorem pick_any (b n : Nat) (xs : List Int) (w : World) (h : Str w sb a len cap zs at_) (hat : at_ ≤ 1000000000000) (hx : xs.length = n) (hn : 1 ≤ n) (hn2 : n ≤ 100) (hb : b ≠ sb) (hc : ∀ i, i < n → w.cell? ⟨b, i, none⟩ = some (.int .i64 (xs.getD i 0))) :
    Calls Tryz.prog 48 #[.pointer (some ⟨sb, 0, none⟩), .slice (some ⟨b, 0, none⟩) n n] w (SomeInt sb a len cap zs at_ 1 (· ∈ xs) w) := by
  have H := hid h
  have HC := hid hc
  have HX := hid hx
  clear h hc hx
  go_enter Tryz.func48, Tryz.ntmps48
  go_wp2_with fail
  refine (next_any sb a len cap zs at_ _ _ H.out hat (by omega) (by omega)).mono ?_
  rintro e w' ⟨⟨r, rfl, h0, h1⟩, hw⟩
  have hc : w'.cell? ⟨b, r.toNat, none⟩ = some (.int .i64 (xs.getD r.toNat 0)) := hw.ext.cell_some (HC.out _ (by omega)) hb
  have hm : Hid (xs.getD r.toNat 0 ∈ xs) := hid (by
    have hk : r.toNat < xs.length := by rw [HX.out]; omega
    rw [List.getD_eq_getElem?_getD, List.getElem?_eq_getElem hk, Option.getD_some]; exact List.getElem_mem hk)
  have HW := hid hw
  clear hw
  generalize xs.getD r.toNat 0 = z at hc hm
  go_wp2_with fail
  go_ret
  exact ⟨⟨_, hm.out, rfl⟩, HW.out⟩

set_option maxHeartbeats 400000 in
theorem some_any (b n : Nat) (xs : List ByteArray) (w : World) (h : Str w sb a len cap zs at_) (hat : at_ ≤ 1000000000000) (hx : xs.length = n) (hn : 1 ≤ n) (hn2 : n ≤ 100) (hb : b ≠ sb) (hc : ∀ i, i < n → w.cell? ⟨b, i, none⟩ = some (.string (xs.getD i ByteArray.empty))) :
    Calls Tryz.prog 22 #[.pointer (some ⟨sb, 0, none⟩), .slice (some ⟨b, 0, none⟩) n n] w (SomeStr sb a len cap zs at_ 1 (· ∈ xs) w) := by
  have H := hid h
  have HC := hid hc
  have HX := hid hx
  clear h hc hx
  go_enter Tryz.func22, Tryz.ntmps22
  go_wp2_with fail
  refine (next_any sb a len cap zs at_ _ _ H.out hat (by omega) (by omega)).mono ?_
  rintro e w' ⟨⟨r, rfl, h0, h1⟩, hw⟩
  have hc : w'.cell? ⟨b, r.toNat, none⟩ = some (.string (xs.getD r.toNat ByteArray.empty)) := hw.ext.cell_some (HC.out _ (by omega)) hb
  have hm : Hid (xs.getD r.toNat ByteArray.empty ∈ xs) := hid (by
    have hk : r.toNat < xs.length := by rw [HX.out]; omega
    rw [List.getD_eq_getElem?_getD, List.getElem?_eq_getElem hk, Option.getD_some]; exact List.getElem_mem hk)
  have HW := hid hw
  clear hw
  generalize xs.getD r.toNat ByteArray.empty = z at hc hm
  go_wp2_with fail
  go_ret
  exact ⟨⟨_, hm.out, rfl⟩, HW.out⟩

theorem cell_new_row (w : World) (C : Array Value) (T : TypeId) (i : Nat) (v : Value) (h : C[i]? = some v) : (w.alloc (.cells C T)).cell? ⟨w.heap.size, i, none⟩ = some v := by
  have hb : (w.alloc (.cells C T)).heap[w.heap.size]? = some (.cells C T (0, 0)) := by show (w.heap.push _)[_]? = _; simp
  rw [cell_of_row _ _ _ _ _ _ hb, h]

theorem heap_new (w : World) (o : Obj) : (w.alloc o).heap[w.heap.size]? = some o := by show (w.heap.push _)[_]? = _; simp
theorem Ext.heap {S : Nat → Prop} {w w' : World} (e : Ext S w w') {b : Nat} {o : Obj} (h : w.heap[b]? = some o) (hs : ¬ S b) : w'.heap[b]? = some o :=
  (e.block b (Array.getElem?_eq_some_iff.1 h).1 hs).trans h
/-- A store into a new block. -/
theorem Went.setCell {d : Int} {w w' : World} (h : Went sb a len cap zs at_ d w w') {p : Addr} (hp : w.heap.size ≤ p.block) (hs : Str w sb a len cap zs at_) (v : Value) : Went sb a len cap zs at_ d w (w'.setCell p v) := by
  obtain ⟨e, x, hx, hl⟩ := h
  refine ⟨e.setCell (.inr hp) v, x, ⟨?_, ?_, ?_, ?_, hx.lo, hx.sep⟩, hl⟩
  · rw [World.cell?_setCell_other _ _ _ _ (by intro e; rw [e] at hp; have := hs.size; simp at hp; omega)]; exact hx.c0
  · rw [World.cell?_setCell_other _ _ _ _ (by intro e; rw [e] at hp; have := hs.size; simp at hp; omega)]; exact hx.c1
  · rw [World.frozen?_setCell]; exact hx.f1
  · exact hs.row.ext (e.setCell (.inr hp) v) (fun y hy hc => Nat.ne_of_lt (hs.sep y hy hc))

/-- What the walk wants of a block of four cells. -/
theorem blk4 {w : World} {b : Nat} {v0 v1 v2 v3 : Value} {T : TypeId} (h : w.heap[b]? = some (.cells #[v0, v1, v2, v3] T (0, 0))) :
    (w.cell? ⟨b, 0, none⟩ = some v0 ∧ w.cell? ⟨b, 1, none⟩ = some v1 ∧ w.cell? ⟨b, 2, none⟩ = some v2 ∧ w.cell? ⟨b, 3, none⟩ = some v3) ∧
    (w.frozen? ⟨b, 0, none⟩ = false ∧ w.frozen? ⟨b, 1, none⟩ = false ∧ w.frozen? ⟨b, 2, none⟩ = false ∧ w.frozen? ⟨b, 3, none⟩ = false) := by
  refine ⟨⟨?_, ?_, ?_, ?_⟩, ?_, ?_, ?_, ?_⟩ <;> first | (rw [cell_of_row _ _ _ _ _ _ h]; rfl) | simp [World.frozen?, h]

/-- Pick at a list that was just written out. -/
theorem pick_new (n : Nat) (xs : List Int) (T : TypeId) (w : World) (h : Str w sb a len cap zs at_) (hat : at_ ≤ 1000000000000) (hx : xs.length = n) (hn : 1 ≤ n) (hn2 : n ≤ 100) :
    Calls Tryz.prog 48 #[.pointer (some ⟨sb, 0, none⟩), .slice (some ⟨w.heap.size, 0, none⟩) n n] (w.alloc (.cells (xs.map (Value.int .i64)).toArray T)) (SomeInt sb a len cap zs at_ 1 (· ∈ xs) w) := by
  refine (pick_any w.heap.size n xs _ (h.alloc _) hat hx hn hn2 (by have := h.size; omega) ?_).mono ?_
  · intro i hi
    refine cell_new_row _ _ _ _ _ ?_
    have : i < xs.length := by omega
    simp [List.getElem?_eq_getElem this, List.getD_eq_getElem?_getD]
  · rintro e w' ⟨hr, hw⟩
    exact ⟨hr, ((Ext.refl w).alloc _).trans hw.1, hw.2⟩
theorem some_new (n : Nat) (xs : List ByteArray) (T : TypeId) (w : World) (h : Str w sb a len cap zs at_) (hat : at_ ≤ 1000000000000) (hx : xs.length = n) (hn : 1 ≤ n) (hn2 : n ≤ 100) :
    Calls Tryz.prog 22 #[.pointer (some ⟨sb, 0, none⟩), .slice (some ⟨w.heap.size, 0, none⟩) n n] (w.alloc (.cells (xs.map Value.string).toArray T)) (SomeStr sb a len cap zs at_ 1 (· ∈ xs) w) := by
  refine (some_any w.heap.size n xs _ (h.alloc _) hat hx hn hn2 (by have := h.size; omega) ?_).mono ?_
  · intro i hi
    refine cell_new_row _ _ _ _ _ ?_
    have : i < xs.length := by omega
    simp [List.getElem?_eq_getElem this, List.getD_eq_getElem?_getD]
  · rintro e w' ⟨hr, hw⟩
    exact ⟨hr, ((Ext.refl w).alloc _).trans hw.1, hw.2⟩
theorem pick_at (n : Nat) (xs : List Int) (T : TypeId) (B : Nat) (w : World) (hB : w.heap.size = B) (h : Str w sb a len cap zs at_) (hat : at_ ≤ 1000000000000) (hx : xs.length = n) (hn : 1 ≤ n) (hn2 : n ≤ 100) :
    Calls Tryz.prog 48 #[.pointer (some ⟨sb, 0, none⟩), .slice (some ⟨B, 0, none⟩) n n] (w.alloc (.cells (xs.map (Value.int .i64)).toArray T)) (SomeInt sb a len cap zs at_ 1 (· ∈ xs) w) := by
  subst hB; exact pick_new n xs T w h hat hx hn hn2
theorem some_at (n : Nat) (xs : List ByteArray) (T : TypeId) (B : Nat) (w : World) (hB : w.heap.size = B) (h : Str w sb a len cap zs at_) (hat : at_ ≤ 1000000000000) (hx : xs.length = n) (hn : 1 ≤ n) (hn2 : n ≤ 100) :
    Calls Tryz.prog 22 #[.pointer (some ⟨sb, 0, none⟩), .slice (some ⟨B, 0, none⟩) n n] (w.alloc (.cells (xs.map Value.string).toArray T)) (SomeStr sb a len cap zs at_ 1 (· ∈ xs) w) := by
  subst hB; exact some_new n xs T w h hat hx hn hn2
end
end Go.Proofs.YtkgciohebloffaaGreat
