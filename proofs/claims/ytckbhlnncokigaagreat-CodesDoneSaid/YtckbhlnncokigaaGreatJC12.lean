/- Texts joined: LawB, Parts. -/
import Derived.Test.YtckbhlnncokigaaGreatJC06
import Derived.Test.YtckbhlnncokigaaGreatJC08
import Derived.Test.YtckbhlnncokigaaGreatJC10
import Derived.Test.YtckbhlnncokigaaGreatJC11
import Derived.Deep.RegionWith
/- The law ExprsBounded, out of the contracts of what it calls. -/
namespace Go.Proofs.YtckbhlnncokigaaGreat
open Go.RowKit

theorem ar_of_form {op n : Int} {s : ByteArray} {a : F} {d : Int} (h : errE op n s a d = 0) : (1 ≤ op ∧ op ≤ 9) ∧ (0 ≤ n ∧ n ≤ 999) ∧ (a.len : Int) = ar op ∧ errF a (d + 1) = 0 := by
  unfold errE at h
  split at h
  · cases h
  split at h
  · cases h
  split at h
  · cases h
  split at h
  · cases h
  split at h
  · cases h
  rename_i h1 h2 h3 h4 h5
  refine ⟨by omega, by omega, ?_, h⟩
  exact Classical.byContradiction fun x => h3 (.inl x)
theorem small_of_errF : ∀ (f : F) (d : Int), errF f d = 0 → f.Small
  | .nil, _, _ => trivial
  | .cons op n s a r, d, h => by
    rw [errF_cons] at h
    split at h
    · rename_i h1
      obtain ⟨k1, k2, k3, k4⟩ := ar_of_form h1
      exact ⟨⟨k1, k2, k3⟩, small_of_errF a (d + 1) k4, small_of_errF r d h⟩
    · rename_i h1; exact absurd h h1
theorem small_of_errE {op n : Int} {s : ByteArray} {a : F} {d : Int} (h : errE op n s a d = 0) : (F.cons op n s a .nil).Small := by
  obtain ⟨k1, k2, k3, k4⟩ := ar_of_form h
  exact ⟨⟨k1, k2, k3⟩, small_of_errF a (d + 1) k4, trivial⟩
theorem good_of_spErr : ∀ (p : Option ByteArray) (L : List (ByteArray × Int × Int)), spErr p L = 0 → SpGood L
  | _, [], _ => by intro x hx; simp at hx
  | p, x :: r, h => by
    unfold spErr at h
    split at h
    · cases h
    split at h
    · cases h
    split at h
    · cases h
    rename_i h1 h2 h3
    intro y hy
    rcases List.mem_cons.1 hy with rfl | hy
    · simp only [In999]; omega
    · exact good_of_spErr _ r h y hy

/-- The stream as a law lays it. -/
theorem str_start {w : World} {a0 : Option Addr} {len cap : Nat} {zs : List Int} {T : TypeId} (h : IsRow w a0 len cap zs) : Str (w.alloc (.cells #[.slice a0 len cap, .int .i64 0] T)) w.heap.size a0 len cap zs 0 := by
  have hb := heap_new w (.cells #[.slice a0 len cap, .int .i64 0] T)
  obtain ⟨⟨c0, c1⟩, _, f1⟩ := blk2 hb
  refine ⟨c0, c1, f1, h.ext ((Ext.refl (S := fun _ => False) w).alloc _) (fun _ _ _ => id), by omega, ?_⟩
  intro x hx hc
  rcases h with ⟨_, h0, _⟩ | ⟨b, off, rfl, h0, _, _, hl, hcell, _⟩
  · omega
  · cases hx
    have := hcell 0 (by omega)
    exact World.block_lt_of_cell? _ _ this
/-- A call that changes the stream alone, behind the law's own laying of it. -/
theorem below_went {w w1 w2 : World} {sb : Nat} (h : Below w.heap.size w w1) (e : Ext (· = sb) w1 w2) (hs : w.heap.size ≤ sb) (h1 : w.heap.size ≤ w1.heap.size) : Below w.heap.size w w2 :=
  ⟨e.os.trans h.os, e.tape.trans h.tape, e.output.trans h.output, Nat.le_trans h.size e.size, fun i hi => (e.block i (by omega) (by omega)).trans (h.block i hi)⟩

/-- What Bounds answers. -/
def bndAns (L : List (ByteArray × Int × Int)) (op n : Int) (s : ByteArray) (a : F) : Int × Int × Int :=
  if errE op n s a 1 ≠ 0 then (0, 0, errE op n s a 1) else if spErr none L ≠ 0 then (0, 0, spErr none L) else ((bndE L op n s a).1, (bndE L op n s a).2, 0)

set_option maxRecDepth 100000 in
set_option maxHeartbeats 4000000 in
theorem law_bounded
    (hB : ∀ (op n : Int) (s : ByteArray) (a : F) (p : Option Addr) (c : Nat) (fa : List Nat) (L : List (ByteArray × Int × Int)) (lp : Option Addr) (lc : Nat) (w : World), RdP w a p fa → a.len ≤ c → c ≤ 9223372036854775807 → (F.cons op n s a .nil).Fits → SpP w L lp → L.length ≤ 3 → L.length ≤ lc → lc ≤ maxLen → (∀ x ∈ L, SpOk x) →
      Calls Tryz.prog 33 #[.agg #[.int .i64 op, .int .i64 n, .string s, .slice p a.len c], .slice lp L.length lc] w fun e w' => e = .returned (.tuple #[.int .i64 (bndAns L op n s a).1, .int .i64 (bndAns L op n s a).2.1, .int .i64 (bndAns L op n s a).2.2]) ∧ Below w.heap.size w w')
    (hBO : ∀ (L : List (ByteArray × Int × Int)) (lp : Option Addr) (lc : Nat), SpGood L → L.length ≤ lc → lc ≤ maxLen → ∀ (op n : Int) (s : ByteArray) (a : F) (p : Option Addr) (c : Nat) (fa : List Nat) (w : World), RdP w a p fa → a.len ≤ c → c ≤ 9223372036854775807 → (F.cons op n s a .nil).Fits → (F.cons op n s a .nil).Small → SpP w L lp →
      Calls Tryz.prog 35 #[.agg #[.int .i64 op, .int .i64 n, .string s, .slice p a.len c], .slice lp L.length lc] w fun e w' => e = .returned (.tuple #[.int .i64 (bndE L op n s a).1, .int .i64 (bndE L op n s a).2]) ∧ Below w.heap.size w w')
    (hV : ∀ w : World, Calls Tryz.prog 21 #[] w fun e w' => e = .returned (.bool true) ∧ Below w.heap.size w w')
    (a0 : Option Addr) (len cap : Nat) (zs : List Int) (w : World) (hr : IsRow w a0 len cap zs) :
    Calls Tryz.prog 5 #[.slice a0 len cap] w fun e w' => e = .returned (.bool true) ∧ Below w.heap.size w w' := by
  have HR := hid hr
  clear hr
  go_enter Tryz.func5, Tryz.ntmps5
  go_wp2_with fail
  have HS := hid (str_start (T := 25) HR.out)
  have HB1 := hid (alloc_below w (.cells #[.slice a0 len cap, .int .i64 0] 25))
  have hz1 : w.heap.size + 1 = (w.alloc (.cells #[.slice a0 len cap, .int .i64 0] 25)).heap.size := by simp
  generalize w.alloc (.cells #[.slice a0 len cap, .int .i64 0] 25) = w1 at *
  refine (anexpr_any _ HS.out (by omega)).mono ?_
  rintro e w2 ⟨⟨op, n, s, f, p, c, fa, rfl, h1, h2, h3, h4, h5, h6⟩, hw2⟩
  obtain ⟨at2, hs2, hle2⟩ := hw2.2
  have HX := hid (And.intro h1 (And.intro h2 (And.intro h3 (And.intro h4 h5))))
  have HS2 := hid hs2
  have HB2 := hid (below_went HB1.out hw2.1 (Nat.le_refl _) (by omega))
  have hz2 : w.heap.size + 1 ≤ w2.heap.size := by have := hw2.1.size; omega
  clear h1 h2 h3 h4 h5 h6 hs2 hw2
  go_wp2_with fail
  refine (spans_any _ HS2.out (by omega)).mono ?_
  rintro e w3 ⟨⟨L, lp, lc, rfl, hlp, hl3, hok, hlc, hlm⟩, hw3⟩
  have HP3 := hid (show SpP w3 L lp from hlp.elim .inl fun ⟨b, h, _, k⟩ => .inr ⟨b, h, k⟩)
  have HK := hid hok
  have HB3 := hid (below_went HB2.out hw3.1 (Nat.le_refl _) (by omega))
  have hz3 : w.heap.size + 1 ≤ w3.heap.size := Nat.le_trans hz2 hw3.1.size
  have HR3 := hid (HX.out.1.ext hw3.1 (fun b hb e => by have := HX.out.2.2.2.1 b hb; omega))
  clear hlp hok hw3
  have hm3 : (lc : Int) ≤ 9223372036854775807 := by unfold maxLen at hlm; omega
  have hl3' : (L.length : Int) ≤ 3 := by omega
  have HL := hid (And.intro hl3 (And.intro hlc hlm))
  clear hl3 hlc hlm
  go_wp2_with fail
  have E3 := (Ext.refl (S := fun _ => False) w3).alloc (.cells #[.int .i64 op, .int .i64 n, .string s, .slice p f.len c] 28)
  have HN3 := hid (heap_new w3 (.cells #[.int .i64 op, .int .i64 n, .string s, .slice p f.len c] 28))
  have HB3' := hid (HB3.out.alloc (by omega) (.cells #[.int .i64 op, .int .i64 n, .string s, .slice p f.len c] 28))
  have HR4 := hid (HR3.out.ext E3 (fun _ _ => id))
  have HP4 := hid (HP3.out.ext E3 (fun _ _ => id))
  have hz4 : w3.heap.size + 1 = (w3.alloc (.cells #[.int .i64 op, .int .i64 n, .string s, .slice p f.len c] 28)).heap.size := by simp
  clear E3 HR3 HP3 HB3
  generalize w3.alloc (.cells #[.int .i64 op, .int .i64 n, .string s, .slice p f.len c] 28) = w4 at *
  refine (hB op n s f p c fa L lp lc _ HR4.out HX.out.2.1 HX.out.2.2.1 HX.out.2.2.2.2 HP4.out HL.out.1 HL.out.2.1 HL.out.2.2 HK.out).mono ?_
  rintro e w5 ⟨rfl, hb5⟩
  have E5 := Ext.of_below (S := fun _ => False) hb5
  have HN5 := hid (E5.heap HN3.out id)
  have HB5 := hid (below_ext HB3'.out E5 (by omega))
  have HR5 := hid (HR4.out.ext E5 (fun _ _ => id))
  have HP5 := hid (HP4.out.ext E5 (fun _ _ => id))
  have hz5 : w3.heap.size + 1 ≤ w5.heap.size := by have := E5.size; omega
  clear E5 HR4 HP4 HB3' HN3 hb5
  obtain ⟨⟨q0, q1, q2, q3⟩, _⟩ := blk4 HN5.out
  generalize hg1 : (bndAns L op n s f).1 = b1
  generalize hg2 : (bndAns L op n s f).2.1 = b2
  generalize hg3 : (bndAns L op n s f).2.2 = b3
  have G1 := hid hg1
  have G2 := hid hg2
  have G3 := hid hg3
  clear hg1 hg2 hg3
  go_wp2_with fail
  refine (q_ExprFault op n s f p c fa _ HR5.out HX.out.2.1 HX.out.2.2.1 HX.out.2.2.2.2).mono ?_
  rintro e w6 ⟨rfl, hb6⟩
  have E6 := Ext.of_below (S := fun _ => False) hb6
  have HN6 := hid (E6.heap HN5.out id)
  have HB6 := hid (below_ext HB5.out E6 (by omega))
  have HR6 := hid (HR5.out.ext E6 (fun _ _ => id))
  have HP6 := hid (HP5.out.ext E6 (fun _ _ => id))
  have hz6 : w3.heap.size + 1 ≤ w6.heap.size := by have := E6.size; omega
  clear E6 HR5 HP5 HB5 HN5 hb6 q0 q1 q2 q3
  generalize hge : errE op n s f 1 = er
  have GE := hid hge
  clear hge
  go_wp2_with fail
  refine (r_SpansFault L lp lc _ HP6.out HL.out.1 HL.out.2.1 HL.out.2.2 HK.out).mono ?_
  rintro e w7 ⟨rfl, hb7⟩
  have E7 := Ext.of_below (S := fun _ => False) hb7
  have HN7 := hid (E7.heap HN6.out id)
  have HB7 := hid (below_ext HB6.out E7 (by omega))
  have HR7 := hid (HR6.out.ext E7 (fun _ _ => id))
  have HP7 := hid (HP6.out.ext E7 (fun _ _ => id))
  have hz7 : w3.heap.size + 1 ≤ w7.heap.size := by have := E7.size; omega
  clear E7 HR6 HP6 HB6 HN6 hb7
  generalize hgs : spErr none L = es
  have GS := hid hgs
  clear hgs
  go_wp2_with fail
  refine (or_new [er, es] 2 _ _ (by omega) rfl).mono ?_
  rintro e w8 ⟨rfl, hb8⟩
  have E8 := Ext.of_below (S := fun _ => False) hb8
  have HN8 := hid (E8.heap HN7.out id)
  have HB8 := hid (below_ext HB7.out E8 (by omega))
  have HR8 := hid (HR7.out.ext E8 (fun _ _ => id))
  have HP8 := hid (HP7.out.ext E8 (fun _ _ => id))
  have hz8 : w3.heap.size + 1 ≤ w8.heap.size := by have := E8.size; omega
  clear E8 HR7 HP7 HB7 HN7 hb8
  by_cases hf : orL [er, es] = 0
  · obtain ⟨rfl, rfl⟩ : er = 0 ∧ es = 0 := by
      by_cases he : er = 0
      · subst he; refine ⟨rfl, ?_⟩; by_cases hs : es = 0
        · exact hs
        · simp [orL, hs] at hf
      · simp [orL, he] at hf
    have hans : bndAns L op n s f = ((bndE L op n s f).1, (bndE L op n s f).2, 0) := by rw [bndAns, if_neg (by rw [GE.out]; simp), if_neg (by rw [GS.out]; simp)]
    obtain rfl : b3 = 0 := by rw [← G3.out, hans]
    have GA := hid (show (bndE L op n s f).1 = b1 by rw [← G1.out, hans])
    have GB := hid (show (bndE L op n s f).2 = b2 by rw [← G2.out, hans])
    rw [hf]
    clear hans hf
    obtain ⟨⟨q0, q1, q2, q3⟩, _⟩ := blk4 HN8.out
    go_wp2_with fail
    refine (hBO L lp lc (good_of_spErr _ _ GS.out) HL.out.2.1 HL.out.2.2 op n s f p c fa _ HR8.out HX.out.2.1 HX.out.2.2.1 HX.out.2.2.2.2 (small_of_errE GE.out) HP8.out).mono ?_
    rintro e w9 ⟨rfl, hb9⟩
    have HB9 := hid (below_ext HB8.out (Ext.of_below (S := fun _ => False) hb9) (by omega))
    clear hb9
    rw [GA.out, GB.out]
    go_wp2_with fail
    refine (hV _).mono ?_
    rintro e w10 ⟨rfl, hb10⟩
    have HB10 := hid (HB9.out.trans (hb10.mono (by have := HB9.out.size; omega)))
    clear hb10
    go_wp2_with fail
    go_ret
    exact ⟨rfl, HB10.out⟩
  · have hans : bndAns L op n s f = (0, 0, orL [er, es]) := by
      rw [bndAns]
      by_cases he : er = 0
      · subst he
        rw [if_neg (by rw [GE.out]; simp)]
        have hs : es ≠ 0 := fun x => hf (by rw [x]; rfl)
        rw [if_pos (by rw [GS.out]; exact hs), GS.out]
        simp [orL, hs]
      · rw [if_pos (by rw [GE.out]; exact he), GE.out]; simp [orL, he]
    obtain rfl : b1 = 0 := by rw [← G1.out, hans]
    obtain rfl : b2 = 0 := by rw [← G2.out, hans]
    obtain rfl : b3 = orL [er, es] := by rw [← G3.out, hans]
    clear hans
    generalize orL [er, es] = er2 at *
    have hf2 : (er2 == 0) = false := by simpa using hf
    clear hf
    obtain ⟨⟨q0, q1, q2, q3⟩, _⟩ := blk4 HN8.out
    go_wp2_with fail
    refine (hV _).mono ?_
    rintro e w10 ⟨rfl, hb10⟩
    have HB10 := hid (HB8.out.trans (hb10.mono (by have := HB8.out.size; omega)))
    clear hb10
    go_wp2_with fail
    go_ret
    exact ⟨rfl, HB10.out⟩
end Go.Proofs.YtckbhlnncokigaaGreat
/- parts: an expression and all in it, each one behind its arguments. -/
namespace Go.Proofs.YtckbhlnncokigaaGreat
open Go.RowKit

/-- Operator, number and name of all expressions of a row, each behind those of its arguments. -/
def ptF : F → List (Int × Int × ByteArray)
  | .nil => []
  | .cons op n s a r => ptF a ++ (op, n, s) :: ptF r
def ptE (op n : Int) (s : ByteArray) (a : F) : List (Int × Int × ByteArray) := ptF a ++ [(op, n, s)]
theorem ptF_cons (op n : Int) (s : ByteArray) (a r : F) : ptF (.cons op n s a r) = ptE op n s a ++ ptF r := by simp [ptF, ptE]
theorem ptF_length : ∀ f : F, (ptF f).length = f.size
  | .nil => rfl
  | .cons _ _ _ a r => by simp [ptF, F.size, ptF_length a, ptF_length r]; omega
theorem ptE_length (op n : Int) (s : ByteArray) (a : F) : (ptE op n s a).length = a.size + 1 := by simp [ptE, ptF_length]
/-- The cells xs are those of expressions with these operators, numbers and names. -/
def PtOk : List Value → List (Int × Int × ByteArray) → Prop
  | xs, [] => xs = []
  | xs, x :: r => ∃ q l c ys, xs = .int .i64 x.1 :: .int .i64 x.2.1 :: .string x.2.2 :: .slice q l c :: ys ∧ PtOk ys r
theorem PtOk.length : ∀ {l : List (Int × Int × ByteArray)} {xs : List Value}, PtOk xs l → xs.length = l.length * 4
  | [], _, rfl => rfl
  | _ :: _, _, ⟨_, _, _, _, rfl, h⟩ => by simp [PtOk.length h]; omega
theorem PtOk.app : ∀ {l m : List (Int × Int × ByteArray)} {xs ys : List Value}, PtOk xs l → PtOk ys m → PtOk (xs ++ ys) (l ++ m)
  | [], _, _, _, rfl, h => h
  | _ :: _, _, _, _, ⟨q, l, c, zs, rfl, h⟩, k => ⟨q, l, c, _, rfl, PtOk.app h k⟩
theorem PtOk.one : ∀ {l : List (Int × Int × ByteArray)} {xs : List Value}, PtOk xs l → ∀ u ∈ xs, u.oneCell' = true
  | [], _, rfl, u, hu => by simp at hu
  | _ :: _, _, ⟨_, _, _, ys, rfl, h⟩, u, hu => by
    simp only [List.mem_cons] at hu
    rcases hu with rfl | rfl | rfl | rfl | hu
    · rfl
    · rfl
    · rfl
    · rfl
    · exact PtOk.one h u hu
theorem PtOk.get : ∀ {l : List (Int × Int × ByteArray)} {xs : List Value}, PtOk xs l → ∀ i x, l[i]? = some x → xs[i * 4]? = some (.int .i64 x.1) ∧ xs[i * 4 + 1]? = some (.int .i64 x.2.1) ∧ xs[i * 4 + 2]? = some (.string x.2.2) ∧ ∃ q l c, xs[i * 4 + 3]? = some (.slice q l c)
  | y :: _, _, ⟨_, _, _, ys, rfl, _⟩, 0, x, hx => by simp at hx; subst hx; simp
  | _ :: _, _, ⟨_, _, _, ys, rfl, h⟩, i + 1, x, hx => by
    have := PtOk.get h i x (by simpa using hx)
    rw [show (i + 1) * 4 = i * 4 + 1 + 1 + 1 + 1 by omega]
    simpa using this

theorem ownsRow_le {w : World} {base base' : Nat} {e : TypeId} {size : Nat} {v : Value} {n : Nat} {xs : List Value} (h : w.ownsRow base e size v n xs) (hb : base' ≤ base) : w.ownsRow base' e size v n xs := by
  refine ⟨h.1, ?_⟩
  rcases h.2 with h2 | ⟨g, cap, cur, h1, h2, rest⟩
  · exact .inl h2
  · exact .inr ⟨g, cap, cur, h1, Nat.le_trans hb h2, rest⟩

/-- What holds behind k rounds. -/
def PRel (op n : Int) (s : ByteArray) (a : F) (p : Option Addr) (c : Nat) (w : World) (k : Nat) (v : Value) (wr : World) : Prop :=
  ∃ (acc : List (Int × Int × ByteArray)) (xs : List Value), ptF a = acc ++ ptF (a.drop k) ∧ PtOk xs acc ∧ wr.ownsRow (w.heap.size + 1) 28 4 v acc.length xs ∧
    wr.heap[w.heap.size]? = some (.cells #[.int .i64 op, .int .i64 n, .string s, .slice p a.len c] 28 (0, 0)) ∧ Below w.heap.size w wr ∧ w.heap.size + 1 ≤ wr.heap.size

def GotParts (op n : Int) (s : ByteArray) (a : F) (w : World) (e : Ending) (w' : World) : Prop :=
  (∃ p c xs, e = .returned (.slice p (a.size + 1) c) ∧ w'.ownsRow w.heap.size 28 4 (.slice p (a.size + 1) c) (a.size + 1) xs ∧ PtOk xs (ptE op n s a)) ∧ Below w.heap.size w w'

set_option maxRecDepth 100000 in
set_option maxHeartbeats 4000000 in
theorem r_parts_one (m : Nat) (hm : m ≤ 1000) (ih : ∀ (op n : Int) (s : ByteArray) (a : F) (p : Option Addr) (c : Nat) (fa : List Nat) (w : World), a.size < m → RdP w a p fa → a.len ≤ c → c ≤ 9223372036854775807 →
      Calls Tryz.prog 62 #[.agg #[.int .i64 op, .int .i64 n, .string s, .slice p a.len c]] w (GotParts op n s a w))
    (op n : Int) (s : ByteArray) (a : F) (p : Option Addr) (c : Nat) (fa : List Nat) (w : World) (ham : a.size ≤ m) (hp : RdP w a p fa) (hac : a.len ≤ c) (hc : c ≤ 9223372036854775807) :
    Calls Tryz.prog 62 #[.agg #[.int .i64 op, .int .i64 n, .string s, .slice p a.len c]] w (GotParts op n s a w) := by
  have HP := hid hp
  have IH := hid ih
  have hR0 : PRel op n s a p c w 0 (.slice none 0 0) (w.alloc (.cells #[.int .i64 op, .int .i64 n, .string s, .slice p a.len c] 28)) :=
    ⟨[], [], rfl, rfl, World.ownsRow_nil _ _ _ _, heap_new w _, alloc_below w _, by simp⟩
  have HR0 := hid hR0
  have hal : (a.len : Int) ≤ 9223372036854775807 := by omega
  obtain ⟨i0, hi0, hz0, hz1, hz2⟩ := info_parts info_expr
  clear hp ih hR0
  go_enter Tryz.func62, Tryz.ntmps62
  go_wp2_with fail
  go_loopw [3, 9] (fun v i wr => ∃ (k : Nat) (u : Value), k ≤ a.len ∧ i = .int .i64 k ∧ v = u ∧ PRel op n s a p c w k u wr) (fun _ i _ => a.len - (intOf i).toNat)
  case atStart => exact ⟨0, _, by omega, rfl, rfl, HR0.out⟩
  case round =>
    obtain ⟨k, v, hk, rfl, hgv, acc, xs, hacc, hpt, hown, hE, hbl, hz⟩ := hrel
    subst hgv
    have hla : acc.length ≤ a.size := by
      have h1 := congrArg List.length hacc
      rw [List.length_append, ptF_length] at h1; omega
    have HA := hid (And.intro hacc hpt)
    have HO := hid hown
    have HEb := hid hE
    have HB := hid hbl
    obtain ⟨⟨q0, q1, q2, q3⟩, f0, f1, f2, f3⟩ := blk4 hE
    have hpr : RdP wr a p fa := HP.out.ext (S := fun _ => False) (Ext.of_below hbl) (fun _ _ => id)
    clear hacc hpt hown hE hbl
    by_cases hlt : k < a.len
    · rcases hpr with ⟨h0, _⟩ | ⟨b, o, xa, fb, rfl, _, _, hcell, _, hx⟩
      · rw [h0] at hlt; simp [F.len] at hlt
      obtain ⟨op', n', s', a', p', c', fa', hdrop, x0, x1, x2, x3, hl', hc', hp', _⟩ := hx.at hlt
      have y0 := hcell _ _ x0
      have y1 := hcell _ _ x1
      have y2 := hcell _ _ x2
      have y3 := hcell _ _ x3
      simp only [← Nat.add_assoc, Nat.mul_comm 4 k] at y0 y1 y2 y3
      have hsz' : a'.size < m := by
        have := F.size_split k a hdrop; omega
      have hsum : acc.length + (a'.size + 1) ≤ a.size := by
        have h1 := congrArg List.length HA.out.1
        rw [hdrop, ptF_cons, List.length_append, List.length_append, ptE_length, ptF_length] at h1; omega
      have HD := hid hdrop
      have HP' := hid (And.intro hp' (And.intro hl' (And.intro hc' hsz')))
      clear hcell hx x0 x1 x2 x3 hp' hl' hc' hsz' hdrop
      go_wp2_with fail
      refine (IH.out op' n' s' a' p' c' fa' _ HP'.out.2.2.2 (HP'.out.1.ext (S := fun _ => False) ((Ext.refl _).alloc _) (fun _ _ => id)) HP'.out.2.1 HP'.out.2.2.1).mono ?_
      rintro e w3 ⟨⟨p3, c3, ys, rfl, hown3, hpt3⟩, hb3⟩
      have hz3 : wr.heap.size + 1 ≤ w3.heap.size := by have := hb3.size; simpa using this
      have HB3 := hid ((alloc_below wr _).trans (hb3.mono (by simp)))
      have HO3 := hid (ownsRow_ext (S := fun _ => False) HO.out (Ext.of_below HB3.out) (fun _ _ _ => id))
      obtain ⟨g3, cc3, hv3, hg3, _, _, hcell3, _⟩ := own_cells hown3 (by omega)
      injection hv3 with hv4 _ hv5
      subst hv4 hv5
      have HN3 := hid (show ∀ j u, ys[j]? = some u → w3.cell? ((⟨g3, 0, none⟩ : Addr).add j) = some u from fun j u hu => by
        have hadd : (⟨g3, 0, none⟩ : Addr).add j = ⟨g3, j, none⟩ := by unfold Addr.add; split <;> simp_all
        rw [hadd]; exact hcell3 j u hu)
      have HT3 := hid hpt3
      clear hb3 hown3 hcell3 hpt3
      go_wp2_with (at_builtin; refine wpList_append_lies _ rfl _ _ 26 rfl (w.heap.size + 1) 28 i0 _ 4 56 Tryz.underlying26 hi0 hz0 hz1 hz2 rfl (by decide) _ _ _ (by rfl) HO3.out ⟨g3, 0, none⟩ (a'.size + 1) c3 ys rfl (by rw [HT3.out.length, ptE_length]) HN3.out HT3.out.one (by omega) (by unfold maxLen; omega) (by omega) (by omega) _ rfl ?_; intro g cap w4 hown4 hgrow hat4 hlt4)
      have hne : ∀ b, b < w.heap.size + 1 → some b ≠ u3.ownBlock := fun b hb e => by have := (HO.out.lt b e.symm).1; omega
      have e4 : Ext (fun b => some b = u3.ownBlock) wr w4 := ((Ext.of_below HB3.out)).grown hgrow (fun b hb => .inl hb.symm)
      go_roundw
      case rel =>
        refine ⟨k + 1, _, by omega, by go_num, rfl, acc ++ ptE op' n' s' a', xs ++ ys, ?_, HA.out.2.app HT3.out, ?_, e4.heap HEb.out (hne _ (by omega)), ?_, Nat.le_trans hz e4.size⟩
        · rw [HA.out.1, HD.out, ptF_cons]; simp
        · rw [List.length_append, ptE_length]; exact hown4
        · exact ⟨e4.os.trans HB.out.os, e4.tape.trans HB.out.tape, e4.output.trans HB.out.output, Nat.le_trans HB.out.size e4.size, fun i hi => (e4.block i (by have := HB.out.size; omega) (hne _ (by omega))).trans (HB.out.block i hi)⟩
      case measure => simp [intOf]; omega
    · have hka : k = a.len := by omega
      have hfin : ptF a = acc := by rw [HA.out.1, F.eq_nil_of_len (f := a.drop k) (by rw [F.len_drop]; omega)]; simp [ptF]
      have hal2 : acc.length = a.size := by rw [← hfin, ptF_length]
      have HF := hid hfin
      clear hpr hfin
      subst hka
      have hne : ∀ b, b < w.heap.size + 1 → some b ≠ u3.ownBlock := fun b hb e => by have := (HO.out.lt b e.symm).1; omega
      have HNE := hid hne
      clear hne
      go_wp2_with (at_builtin; refine wpList_append_lies _ rfl _ _ 26 rfl (w.heap.size + 1) 28 i0 _ 4 56 Tryz.underlying26 hi0 hz0 hz1 hz2 rfl (by decide) _ _ _ (by rfl) (HO.out.alloc _) ⟨wr.heap.size, 0, none⟩ 1 1 [.int .i64 op, .int .i64 n, .string s, .slice p a.len c] rfl rfl (World.news_of_block (cs := #[.int .i64 op, .int .i64 n, .string s, .slice p a.len c]) (t := 28) (fr := (0, 0)) (heap_alloc_new wr _)) (by simp [Value.oneCell']) (by omega) (by unfold maxLen; omega) (by omega) (by simp; omega) _ rfl ?_; intro g cap w4 hown4 hgrow hat4 hlt4)
      have e4 : Ext (fun b => some b = u3.ownBlock) wr w4 := ((Ext.refl wr).alloc _).grown hgrow (fun b hb => .inl hb.symm)
      have HB4 : Hid (Below w.heap.size w w4) := hid ⟨e4.os.trans HB.out.os, e4.tape.trans HB.out.tape, e4.output.trans HB.out.output, Nat.le_trans HB.out.size e4.size, fun i hi => (e4.block i (by have := HB.out.size; omega) (HNE.out _ (by omega))).trans (HB.out.block i hi)⟩
      have hO4 := hid hown4
      rw [hal2] at hO4
      clear hown4 hgrow e4
      go_wp2_with fail
      go_ret
      refine ⟨⟨_, cap, _, rfl, ownsRow_le hO4.out (by omega), ?_⟩, HB4.out⟩
      have h1 := HA.out.2
      rw [← HF.out] at h1
      exact h1.app ⟨_, _, _, [], rfl, rfl⟩
theorem r_parts (m : Nat) : m ≤ 1001 → ∀ (op n : Int) (s : ByteArray) (a : F) (p : Option Addr) (c : Nat) (fa : List Nat) (w : World), a.size < m → RdP w a p fa → a.len ≤ c → c ≤ 9223372036854775807 →
      Calls Tryz.prog 62 #[.agg #[.int .i64 op, .int .i64 n, .string s, .slice p a.len c]] w (GotParts op n s a w) := by
  induction m with
  | zero => intro _ op n s a p c fa w h; omega
  | succ m ih => intro hm op n s a p c fa w h h1 h2 h3; exact r_parts_one m (by omega) (ih (by omega)) op n s a p c fa w (by omega) h1 h2 h3
set_option maxHeartbeats 1000000 in
theorem r_SizeIn (op n : Int) (s : ByteArray) (a : F) (p : Option Addr) (c : Nat) (fa : List Nat) (w : World) (ha : a.size ≤ 1000) (h1 : RdP w a p fa) (h2 : a.len ≤ c) (h3 : c ≤ 9223372036854775807) :
    Calls Tryz.prog 18 #[.agg #[.int .i64 op, .int .i64 n, .string s, .slice p a.len c]] w fun e w' => e = .returned (.int .i64 ((a.size + 1 : Nat) : Int)) ∧ Below w.heap.size w w' := by
  have H1 := hid h1
  clear h1
  go_enter Tryz.func18, Tryz.ntmps18
  go_wp2_with fail
  refine (r_parts (a.size + 1) (by omega) op n s a p c fa _ (by omega) (H1.out.ext (S := fun _ => False) ((Ext.refl _).alloc _) (fun _ _ => id)) h2 h3).mono ?_
  rintro e w' ⟨⟨p3, c3, ys, rfl, _, _⟩, hb⟩
  have HB := hid ((alloc_below w _).trans (hb.mono (by simp)))
  clear hb
  go_wp2_with fail
  go_ret
  exact ⟨by simp, HB.out⟩
end Go.Proofs.YtckbhlnncokigaaGreat
