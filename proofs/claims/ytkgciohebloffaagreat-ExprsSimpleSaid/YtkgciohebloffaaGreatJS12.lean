/- Texts joined: LawB, Same. -/
import Derived.Test.YtkgciohebloffaaGreatJS06
import Derived.Test.YtkgciohebloffaaGreatJS08
import Derived.Test.YtkgciohebloffaaGreatJS10
import Derived.Test.YtkgciohebloffaaGreatJS11
import Derived.Deep.RegionWith
import Derived.Test.YtkgciohebloffaaGreatJS07
/- The law ExprsBounded, out of the contracts of what it calls. -/
namespace Go.Proofs.YtkgciohebloffaaGreat
open Go.RowKit

theorem ar_of_form {op n : Int} {s : ByteArray} {a : F} {d : Int} (h : errE op n s a d = 0) : (1 ≤ op ∧ op ≤ 9) ∧ (0 ≤ n ∧ n ≤ 999) ∧ (a.len : Int) = ar op ∧ errF a (d + 1) = 0 := by
  unfold errE at h
  split at h
  · cases h
  split at h
  · cases h
  split at h
  · cases h
  split at h
  · cases h
  split at h
  · cases h
  rename_i h1 h2 h3 h4 h5
  refine ⟨by omega, by omega, ?_, h⟩
  exact Classical.byContradiction fun x => h3 (.inl x)
theorem small_of_errF : ∀ (f : F) (d : Int), errF f d = 0 → f.Small
  | .nil, _, _ => trivial
  | .cons op n s a r, d, h => by
    rw [errF_cons] at h
    split at h
    · rename_i h1
      obtain ⟨k1, k2, k3, k4⟩ := ar_of_form h1
      exact ⟨⟨k1, k2, k3⟩, small_of_errF a (d + 1) k4, small_of_errF r d h⟩
    · rename_i h1; exact absurd h h1
theorem small_of_errE {op n : Int} {s : ByteArray} {a : F} {d : Int} (h : errE op n s a d = 0) : (F.cons op n s a .nil).Small := by
  obtain ⟨k1, k2, k3, k4⟩ := ar_of_form h
  exact ⟨⟨k1, k2, k3⟩, small_of_errF a (d + 1) k4, trivial⟩
theorem good_of_spErr : ∀ (p : Option ByteArray) (L : List (ByteArray × Int × Int)), spErr p L = 0 → SpGood L
  | _, [], _ => by intro x hx; simp at hx
  | p, x :: r, h => by
    unfold spErr at h
    split at h
    · cases h
    split at h
    · cases h
    split at h
    · cases h
    rename_i h1 h2 h3
    intro y hy
    rcases List.mem_cons.1 hy with rfl | hy
    · simp only [In999]; omega
    · exact good_of_spErr _ r h y hy

/-- The stream as a law lays it. -/
theorem str_start {w : World} {a0 : Option Addr} {len cap : Nat} {zs : List Int} {T : TypeId} (h : IsRow w a0 len cap zs) : Str (w.alloc (.cells #[.slice a0 len cap, .int .i64 0] T)) w.heap.size a0 len cap zs 0 := by
  have hb := heap_new w (.cells #[.slice a0 len cap, .int .i64 0] T)
  obtain ⟨⟨c0, c1⟩, _, f1⟩ := blk2 hb
  refine ⟨c0, c1, f1, h.ext ((Ext.refl (S := fun _ => False) w).alloc _) (fun _ _ _ => id), by omega, ?_⟩
  intro x hx hc
  rcases h with ⟨_, h0, _⟩ | ⟨b, off, rfl, h0, _, _, hl, hcell, _⟩
  · omega
  · cases hx
    have := hcell 0 (by omega)
    exact World.block_lt_of_cell? _ _ this
/-- A call that changes the stream alone, behind the law's own laying of it. -/
theorem below_went {w w1 w2 : World} {sb : Nat} (h : Below w.heap.size w w1) (e : Ext (· = sb) w1 w2) (hs : w.heap.size ≤ sb) (h1 : w.heap.size ≤ w1.heap.size) : Below w.heap.size w w2 :=
  ⟨e.os.trans h.os, e.tape.trans h.tape, e.output.trans h.output, Nat.le_trans h.size e.size, fun i hi => (e.block i (by omega) (by omega)).trans (h.block i hi)⟩

/-- What Bounds answers. -/
def bndAns (L : List (ByteArray × Int × Int)) (op n : Int) (s : ByteArray) (a : F) : Int × Int × Int :=
  if errE op n s a 1 ≠ 0 then (0, 0, errE op n s a 1) else if spErr none L ≠ 0 then (0, 0, spErr none L) else ((bndE L op n s a).1, (bndE L op n s a).2, 0)

set_option maxRecDepth 100000 in
set_option maxHeartbeats 4000000 in
theorem law_bounded
    (hB : ∀ (op n : Int) (s : ByteArray) (a : F) (p : Option Addr) (c : Nat) (fa : List Nat) (L : List (ByteArray × Int × Int)) (lp : Option Addr) (lc : Nat) (w : World), RdP w a p fa → a.len ≤ c → c ≤ 9223372036854775807 → (F.cons op n s a .nil).Fits → SpP w L lp → L.length ≤ 3 → L.length ≤ lc → lc ≤ maxLen → (∀ x ∈ L, SpOk x) →
      Calls Tryz.prog 33 #[.agg #[.int .i64 op, .int .i64 n, .string s, .slice p a.len c], .slice lp L.length lc] w fun e w' => e = .returned (.tuple #[.int .i64 (bndAns L op n s a).1, .int .i64 (bndAns L op n s a).2.1, .int .i64 (bndAns L op n s a).2.2]) ∧ Below w.heap.size w w')
    (hBO : ∀ (L : List (ByteArray × Int × Int)) (lp : Option Addr) (lc : Nat), SpGood L → L.length ≤ lc → lc ≤ maxLen → ∀ (op n : Int) (s : ByteArray) (a : F) (p : Option Addr) (c : Nat) (fa : List Nat) (w : World), RdP w a p fa → a.len ≤ c → c ≤ 9223372036854775807 → (F.cons op n s a .nil).Fits → (F.cons op n s a .nil).Small → SpP w L lp →
      Calls Tryz.prog 35 #[.agg #[.int .i64 op, .int .i64 n, .string s, .slice p a.len c], .slice lp L.length lc] w fun e w' => e = .returned (.tuple #[.int .i64 (bndE L op n s a).1, .int .i64 (bndE L op n s a).2]) ∧ Below w.heap.size w w')
    (hV : ∀ w : World, Calls Tryz.prog 21 #[] w fun e w' => e = .returned (.bool true) ∧ Below w.heap.size w w')
    (a0 : Option Addr) (len cap : Nat) (zs : List Int) (w : World) (hr : IsRow w a0 len cap zs) :
    Calls Tryz.prog 5 #[.slice a0 len cap] w fun e w' => e = .returned (.bool true) ∧ Below w.heap.size w w' := by
  have HR := hid hr
  clear hr
  go_enter Tryz.func5, Tryz.ntmps5
  go_wp2_with fail
  have HS := hid (str_start (T := 25) HR.out)
  have HB1 := hid (alloc_below w (.cells #[.slice a0 len cap, .int .i64 0] 25))
  have hz1 : w.heap.size + 1 = (w.alloc (.cells #[.slice a0 len cap, .int .i64 0] 25)).heap.size := by simp
  generalize w.alloc (.cells #[.slice a0 len cap, .int .i64 0] 25) = w1 at *
  refine (anexpr_any _ HS.out (by omega)).mono ?_
  rintro e w2 ⟨⟨op, n, s, f, p, c, fa, rfl, h1, h2, h3, h4, h5, h6⟩, hw2⟩
  obtain ⟨at2, hs2, hle2⟩ := hw2.2
  have HX := hid (And.intro h1 (And.intro h2 (And.intro h3 (And.intro h4 h5))))
  have HS2 := hid hs2
  have HB2 := hid (below_went HB1.out hw2.1 (Nat.le_refl _) (by omega))
  have hz2 : w.heap.size + 1 ≤ w2.heap.size := by have := hw2.1.size; omega
  clear h1 h2 h3 h4 h5 h6 hs2 hw2
  go_wp2_with fail
  refine (spans_any _ HS2.out (by omega)).mono ?_
  rintro e w3 ⟨⟨L, lp, lc, rfl, hlp, hl3, hok, hlc, hlm⟩, hw3⟩
  have HP3 := hid (show SpP w3 L lp from hlp.elim .inl fun ⟨b, h, _, k⟩ => .inr ⟨b, h, k⟩)
  have HK := hid hok
  have HB3 := hid (below_went HB2.out hw3.1 (Nat.le_refl _) (by omega))
  have hz3 : w.heap.size + 1 ≤ w3.heap.size := Nat.le_trans hz2 hw3.1.size
  have HR3 := hid (HX.out.1.ext hw3.1 (fun b hb e => by have := HX.out.2.2.2.1 b hb; omega))
  clear hlp hok hw3
  have hm3 : (lc : Int) ≤ 9223372036854775807 := by unfold maxLen at hlm; omega
  have hl3' : (L.length : Int) ≤ 3 := by omega
  have HL := hid (And.intro hl3 (And.intro hlc hlm))
  clear hl3 hlc hlm
  go_wp2_with fail
  have E3 := (Ext.refl (S := fun _ => False) w3).alloc (.cells #[.int .i64 op, .int .i64 n, .string s, .slice p f.len c] 28)
  have HN3 := hid (heap_new w3 (.cells #[.int .i64 op, .int .i64 n, .string s, .slice p f.len c] 28))
  have HB3' := hid (HB3.out.alloc (by omega) (.cells #[.int .i64 op, .int .i64 n, .string s, .slice p f.len c] 28))
  have HR4 := hid (HR3.out.ext E3 (fun _ _ => id))
  have HP4 := hid (HP3.out.ext E3 (fun _ _ => id))
  have hz4 : w3.heap.size + 1 = (w3.alloc (.cells #[.int .i64 op, .int .i64 n, .string s, .slice p f.len c] 28)).heap.size := by simp
  clear E3 HR3 HP3 HB3
  generalize w3.alloc (.cells #[.int .i64 op, .int .i64 n, .string s, .slice p f.len c] 28) = w4 at *
  refine (hB op n s f p c fa L lp lc _ HR4.out HX.out.2.1 HX.out.2.2.1 HX.out.2.2.2.2 HP4.out HL.out.1 HL.out.2.1 HL.out.2.2 HK.out).mono ?_
  rintro e w5 ⟨rfl, hb5⟩
  have E5 := Ext.of_below (S := fun _ => False) hb5
  have HN5 := hid (E5.heap HN3.out id)
  have HB5 := hid (below_ext HB3'.out E5 (by omega))
  have HR5 := hid (HR4.out.ext E5 (fun _ _ => id))
  have HP5 := hid (HP4.out.ext E5 (fun _ _ => id))
  have hz5 : w3.heap.size + 1 ≤ w5.heap.size := by have := E5.size; omega
  clear E5 HR4 HP4 HB3' HN3 hb5
  obtain ⟨⟨q0, q1, q2, q3⟩, _⟩ := blk4 HN5.out
  generalize hg1 : (bndAns L op n s f).1 = b1
  generalize hg2 : (bndAns L op n s f).2.1 = b2
  generalize hg3 : (bndAns L op n s f).2.2 = b3
  have G1 := hid hg1
  have G2 := hid hg2
  have G3 := hid hg3
  clear hg1 hg2 hg3
  go_wp2_with fail
  refine (q_ExprFault op n s f p c fa _ HR5.out HX.out.2.1 HX.out.2.2.1 HX.out.2.2.2.2).mono ?_
  rintro e w6 ⟨rfl, hb6⟩
  have E6 := Ext.of_below (S := fun _ => False) hb6
  have HN6 := hid (E6.heap HN5.out id)
  have HB6 := hid (below_ext HB5.out E6 (by omega))
  have HR6 := hid (HR5.out.ext E6 (fun _ _ => id))
  have HP6 := hid (HP5.out.ext E6 (fun _ _ => id))
  have hz6 : w3.heap.size + 1 ≤ w6.heap.size := by have := E6.size; omega
  clear E6 HR5 HP5 HB5 HN5 hb6 q0 q1 q2 q3
  generalize hge : errE op n s f 1 = er
  have GE := hid hge
  clear hge
  go_wp2_with fail
  refine (r_SpansFault L lp lc _ HP6.out HL.out.1 HL.out.2.1 HL.out.2.2 HK.out).mono ?_
  rintro e w7 ⟨rfl, hb7⟩
  have E7 := Ext.of_below (S := fun _ => False) hb7
  have HN7 := hid (E7.heap HN6.out id)
  have HB7 := hid (below_ext HB6.out E7 (by omega))
  have HR7 := hid (HR6.out.ext E7 (fun _ _ => id))
  have HP7 := hid (HP6.out.ext E7 (fun _ _ => id))
  have hz7 : w3.heap.size + 1 ≤ w7.heap.size := by have := E7.size; omega
  clear E7 HR6 HP6 HB6 HN6 hb7
  generalize hgs : spErr none L = es
  have GS := hid hgs
  clear hgs
  go_wp2_with fail
  refine (or_new [er, es] 2 _ _ (by omega) rfl).mono ?_
  rintro e w8 ⟨rfl, hb8⟩
  have E8 := Ext.of_below (S := fun _ => False) hb8
  have HN8 := hid (E8.heap HN7.out id)
  have HB8 := hid (below_ext HB7.out E8 (by omega))
  have HR8 := hid (HR7.out.ext E8 (fun _ _ => id))
  have HP8 := hid (HP7.out.ext E8 (fun _ _ => id))
  have hz8 : w3.heap.size + 1 ≤ w8.heap.size := by have := E8.size; omega
  clear E8 HR7 HP7 HB7 HN7 hb8
  by_cases hf : orL [er, es] = 0
  · obtain ⟨rfl, rfl⟩ : er = 0 ∧ es = 0 := by
      by_cases he : er = 0
      · subst he; refine ⟨rfl, ?_⟩; by_cases hs : es = 0
        · exact hs
        · simp [orL, hs] at hf
      · simp [orL, he] at hf
    have hans : bndAns L op n s f = ((bndE L op n s f).1, (bndE L op n s f).2, 0) := by rw [bndAns, if_neg (by rw [GE.out]; simp), if_neg (by rw [GS.out]; simp)]
    obtain rfl : b3 = 0 := by rw [← G3.out, hans]
    have GA := hid (show (bndE L op n s f).1 = b1 by rw [← G1.out, hans])
    have GB := hid (show (bndE L op n s f).2 = b2 by rw [← G2.out, hans])
    rw [hf]
    clear hans hf
    obtain ⟨⟨q0, q1, q2, q3⟩, _⟩ := blk4 HN8.out
    go_wp2_with fail
    refine (hBO L lp lc (good_of_spErr _ _ GS.out) HL.out.2.1 HL.out.2.2 op n s f p c fa _ HR8.out HX.out.2.1 HX.out.2.2.1 HX.out.2.2.2.2 (small_of_errE GE.out) HP8.out).mono ?_
    rintro e w9 ⟨rfl, hb9⟩
    have HB9 := hid (below_ext HB8.out (Ext.of_below (S := fun _ => False) hb9) (by omega))
    clear hb9
    rw [GA.out, GB.out]
    go_wp2_with fail
    refine (hV _).mono ?_
    rintro e w10 ⟨rfl, hb10⟩
    have HB10 := hid (HB9.out.trans (hb10.mono (by have := HB9.out.size; omega)))
    clear hb10
    go_wp2_with fail
    go_ret
    exact ⟨rfl, HB10.out⟩
  · have hans : bndAns L op n s f = (0, 0, orL [er, es]) := by
      rw [bndAns]
      by_cases he : er = 0
      · subst he
        rw [if_neg (by rw [GE.out]; simp)]
        have hs : es ≠ 0 := fun x => hf (by rw [x]; rfl)
        rw [if_pos (by rw [GS.out]; exact hs), GS.out]
        simp [orL, hs]
      · rw [if_pos (by rw [GE.out]; exact he), GE.out]; simp [orL, he]
    obtain rfl : b1 = 0 := by rw [← G1.out, hans]
    obtain rfl : b2 = 0 := by rw [← G2.out, hans]
    obtain rfl : b3 = orL [er, es] := by rw [← G3.out, hans]
    clear hans
    generalize orL [er, es] = er2 at *
    have hf2 : (er2 == 0) = false := by simpa using hf
    clear hf
    obtain ⟨⟨q0, q1, q2, q3⟩, _⟩ := blk4 HN8.out
    go_wp2_with fail
    refine (hV _).mono ?_
    rintro e w10 ⟨rfl, hb10⟩
    have HB10 := hid (HB8.out.trans (hb10.mono (by have := HB8.out.size; omega)))
    clear hb10
    go_wp2_with fail
    go_ret
    exact ⟨rfl, HB10.out⟩
end Go.Proofs.YtkgciohebloffaaGreat
/- SameExpr: whether two expressions are equal. -/
namespace Go.Proofs.YtkgciohebloffaaGreat
open Go.RowKit

def F.eqb : F → F → Bool
  | .nil, .nil => true
  | .cons op n s a r, .cons op' n' s' a' r' => op == op' && n == n' && s.toList == s'.toList && a.eqb a' && r.eqb r'
  | _, _ => false
/-- Two expressions. -/
def sameE (op n : Int) (s : ByteArray) (a : F) (op' n' : Int) (s' : ByteArray) (a' : F) : Bool := op == op' && n == n' && s.toList == s'.toList && a.eqb a'
theorem F.eqb_refl : ∀ f : F, f.eqb f = true
  | .nil => rfl
  | .cons _ _ _ a r => by simp [F.eqb, F.eqb_refl a, F.eqb_refl r]
theorem F.eqb_cons (op n : Int) (s : ByteArray) (a r : F) (op' n' : Int) (s' : ByteArray) (a' r' : F) : (F.cons op n s a r).eqb (.cons op' n' s' a' r') = (sameE op n s a op' n' s' a' && r.eqb r') := rfl
theorem F.eqb_len : ∀ {f g : F}, f.len ≠ g.len → f.eqb g = false
  | .nil, .nil, h => absurd rfl h
  | .nil, .cons _ _ _ _ _, _ => rfl
  | .cons _ _ _ _ _, .nil, _ => rfl
  | .cons _ _ _ _ r, .cons _ _ _ _ r', h => by
    have : r.eqb r' = false := F.eqb_len (by simp [F.len] at h; exact h)
    simp [F.eqb, this]

/-- What is said of SameExpr, for first operands of less than m nodes. -/
def SameSaid (m : Nat) : Prop := ∀ (op n : Int) (s : ByteArray) (a : F) (p : Option Addr) (c : Nat) (fa : List Nat) (op' n' : Int) (s' : ByteArray) (a' : F) (p' : Option Addr) (c' : Nat) (fa' : List Nat) (w : World), a.size < m → RdP w a p fa → RdP w a' p' fa' → a.len ≤ c → c ≤ 9223372036854775807 → a'.len ≤ c' → c' ≤ 9223372036854775807 →
    Calls Tryz.prog 31 #[.agg #[.int .i64 op, .int .i64 n, .string s, .slice p a.len c], .agg #[.int .i64 op', .int .i64 n', .string s', .slice p' a'.len c']] w fun e w' => e = .returned (.bool (sameE op n s a op' n' s' a')) ∧ Below w.heap.size w w'

set_option maxRecDepth 100000 in
set_option maxHeartbeats 4000000 in
theorem same_all (m : Nat) (ih : SameSaid m) (a a' : F) (p p' : Option Addr) (c c' : Nat) (fa fa' : List Nat) (w : World) (ham : a.size ≤ m) (hp : RdP w a p fa) (hp' : RdP w a' p' fa') (hac : a.len ≤ c) (hc : c ≤ 9223372036854775807) (_hac' : a'.len ≤ c') (_hc' : c' ≤ 9223372036854775807) :
    Calls Tryz.prog 78 #[.slice p a.len c, .slice p' a'.len c', .func (.func 31) #[] #[]] w fun e w' => e = .returned (.bool (a.eqb a')) ∧ Below w.heap.size w w' := by
  have HP := hid hp
  have HP' := hid hp'
  clear hp hp'
  by_cases hl : (a.len : Int) = a'.len
  · have e1 : ((a.len : Int) != a'.len) = false := by simpa using hl
    have hl1 : a.len ≤ a'.len := by omega
    have hl2 : a'.len ≤ a.len := by omega
    clear hl
    go_enter Tryz.func78, Tryz.ntmps78
    go_wp2_with fail
    go_loopw [17] (fun i wr => ∃ k : Nat, k ≤ a.len ∧ i = .int .i64 k ∧ a.eqb a' = (a.drop k).eqb (a'.drop k) ∧ Below w.heap.size w wr) (fun i _ => a.len - (intOf i).toNat)
    case atStart => exact ⟨0, by omega, rfl, rfl, Below.refl _ _⟩
    case round =>
      obtain ⟨k, hk, rfl, herr, hbl⟩ := hrel
      have HR := hid herr
      have HBl := hid hbl
      have hzr : w.heap.size ≤ wr.heap.size := hbl.size
      have hpr : RdP wr a p fa := HP.out.ext (S := fun _ => False) (Ext.of_below hbl) (fun _ _ => id)
      have hpr' : RdP wr a' p' fa' := HP'.out.ext (S := fun _ => False) (Ext.of_below hbl) (fun _ _ => id)
      clear herr hbl
      by_cases hlt : k < a.len
      · rcases hpr with ⟨h0, _⟩ | ⟨b, o, xa, fb, rfl, _, _, hcell, _, hx⟩
        · rw [h0] at hlt; simp [F.len] at hlt
        rcases hpr' with ⟨h0, _⟩ | ⟨b', o', xa', fb', rfl, _, _, hcell', _, hx'⟩
        · rw [h0] at hl1; simp [F.len] at hl1; omega
        obtain ⟨op1, n1, s1, a1, p1, c1, fa1, hdrop, x0, x1, x2, x3, hl', hc1, hp1, _⟩ := hx.at hlt
        obtain ⟨op2, n2, s2, a2, p2, c2, fa2, hdrop2, y0, y1, y2, y3, hl2', hc2, hp2, _⟩ := hx'.at (show k < a'.len by omega)
        have q0 := hcell _ _ x0
        have q1 := hcell _ _ x1
        have q2 := hcell _ _ x2
        have q3 := hcell _ _ x3
        have r0 := hcell' _ _ y0
        have r1 := hcell' _ _ y1
        have r2 := hcell' _ _ y2
        have r3 := hcell' _ _ y3
        simp only [← Nat.add_assoc, Nat.mul_comm 4 k] at q0 q1 q2 q3 r0 r1 r2 r3
        have hbb : b' < wr.heap.size := World.block_lt_of_cell? _ _ r0
        have hsz' : a1.size < m := by
          have := F.size_split k a hdrop; omega
        have HD := hid (And.intro hdrop hdrop2)
        have HQ := hid (And.intro hp1 (And.intro hp2 (And.intro hl' (And.intro hc1 (And.intro hl2' (And.intro hc2 hsz'))))))
        clear hcell hx x0 x1 x2 x3 hp1 hl' hc1 hsz' hdrop hcell' hx' y0 y1 y2 y3 hp2 hl2' hc2 hdrop2
        have hk2 : (k : Int) < (a'.len : Int) := by omega
        go_wp2_with fail
        refine (ih op1 n1 s1 a1 p1 c1 fa1 op2 n2 s2 a2 p2 c2 fa2 _ HQ.out.2.2.2.2.2.2 (HQ.out.1.ext (S := fun _ => False) (((Ext.refl _).alloc _).alloc _) (fun _ _ => id)) (HQ.out.2.1.ext (S := fun _ => False) (((Ext.refl _).alloc _).alloc _) (fun _ _ => id)) HQ.out.2.2.1 HQ.out.2.2.2.1 HQ.out.2.2.2.2.1 HQ.out.2.2.2.2.2.1).mono ?_
        rintro e w3 ⟨rfl, hb3⟩
        have HB3 := hid (HBl.out.trans ((((q_alloc_below wr _).trans ((q_alloc_below _ _).mono (by simp))).mono hzr).trans (hb3.mono (by simp; omega))))
        clear hb3
        have HEr : Hid (a.eqb a' = (sameE op1 n1 s1 a1 op2 n2 s2 a2 && (a.drop (k + 1)).eqb (a'.drop (k + 1)))) := hid (by rw [HR.out, HD.out.1, HD.out.2, F.eqb_cons])
        generalize sameE op1 n1 s1 a1 op2 n2 s2 a2 = er at *
        cases er
        · go_wp2_with fail
          go_ret
          exact ⟨ret_bool (by rw [HEr.out]; rfl), HB3.out⟩
        · go_wp2_with fail
          go_roundw
          case rel => exact ⟨k + 1, by omega, by go_num, by rw [HEr.out]; rfl, HB3.out⟩
          case measure => simp [intOf]; omega
      · go_wp2_with fail
        go_ret
        exact ⟨ret_bool (by rw [HR.out, F.eq_nil_of_len (f := a.drop k) (by rw [F.len_drop]; omega), F.eq_nil_of_len (f := a'.drop k) (by rw [F.len_drop]; omega)]; rfl), HBl.out⟩
  · have e1 : ((a.len : Int) != a'.len) = true := by simpa using hl
    have HE := hid (F.eqb_len (f := a) (g := a') (by omega))
    clear hl
    go_enter Tryz.func78, Tryz.ntmps78
    go_wp2_with fail
    go_ret
    exact ⟨ret_bool HE.out.symm, Below.refl _ _⟩

set_option maxRecDepth 100000 in
set_option maxHeartbeats 4000000 in
theorem same_one (m : Nat) (ih : SameSaid m)
    (op n : Int) (s : ByteArray) (a : F) (p : Option Addr) (c : Nat) (fa : List Nat) (op' n' : Int) (s' : ByteArray) (a' : F) (p' : Option Addr) (c' : Nat) (fa' : List Nat) (w : World) (ham : a.size ≤ m) (hp : RdP w a p fa) (hp' : RdP w a' p' fa') (hac : a.len ≤ c) (hc : c ≤ 9223372036854775807) (hac' : a'.len ≤ c') (hc' : c' ≤ 9223372036854775807) :
    Calls Tryz.prog 31 #[.agg #[.int .i64 op, .int .i64 n, .string s, .slice p a.len c], .agg #[.int .i64 op', .int .i64 n', .string s', .slice p' a'.len c']] w fun e w' => e = .returned (.bool (sameE op n s a op' n' s' a')) ∧ Below w.heap.size w w' := by
  have HP := hid hp
  have HP' := hid hp'
  clear hp hp'
  by_cases h1 : op = op'
  · subst h1
    by_cases h2 : n = n'
    · subst h2
      by_cases h3 : (s.toList == s'.toList) = true
      · have HE : Hid (sameE op n s a op n s' a' = a.eqb a') := hid (by simp only [sameE, h3, beq_self_eq_true, Bool.true_and])
        go_enter Tryz.func31, Tryz.ntmps31
        go_wp2_with fail
        refine (same_all m ih a a' p p' c c' fa fa' _ ham (HP.out.ext (S := fun _ => False) (((Ext.refl _).alloc _).alloc _) (fun _ _ => id)) (HP'.out.ext (S := fun _ => False) (((Ext.refl _).alloc _).alloc _) (fun _ _ => id)) hac hc hac' hc').mono ?_
        rintro e w3 ⟨rfl, hb3⟩
        have HB3 := hid (((q_alloc_below w _).trans ((q_alloc_below _ _).mono (by simp))).trans (hb3.mono (by simp; omega)))
        clear hb3
        go_wp2_with fail
        go_ret
        exact ⟨ret_bool HE.out.symm, HB3.out⟩
      · have h4 : (s.toList == s'.toList) = false := by simpa using h3
        have HE : Hid (sameE op n s a op n s' a' = false) := hid (by simp only [sameE, h4, Bool.and_false, Bool.false_and])
        clear h3
        go_enter Tryz.func31, Tryz.ntmps31
        go_wp2_with fail
        go_ret
        exact ⟨ret_bool HE.out.symm, (q_alloc_below _ _).trans ((q_alloc_below _ _).mono (by simp))⟩
    · have e1 : (n == n') = false := by simpa using h2
      have HE : Hid (sameE op n s a op n' s' a' = false) := hid (by simp [sameE, h2])
      clear h2
      go_enter Tryz.func31, Tryz.ntmps31
      go_wp2_with fail
      go_ret
      exact ⟨ret_bool HE.out.symm, (q_alloc_below _ _).trans ((q_alloc_below _ _).mono (by simp))⟩
  · have e1 : (op == op') = false := by simpa using h1
    have HE : Hid (sameE op n s a op' n' s' a' = false) := hid (by simp [sameE, h1])
    clear h1
    go_enter Tryz.func31, Tryz.ntmps31
    go_wp2_with fail
    go_ret
    exact ⟨ret_bool HE.out.symm, (q_alloc_below _ _).trans ((q_alloc_below _ _).mono (by simp))⟩

theorem q_SameExpr (m : Nat) : SameSaid m := by
  induction m with
  | zero => intro op n s a p c fa op' n' s' a' p' c' fa' w h; omega
  | succ m ih => intro op n s a p c fa op' n' s' a' p' c' fa' w h h1 h2 h3 h4 h5 h6; exact same_one m ih op n s a p c fa op' n' s' a' p' c' fa' w (by omega) h1 h2 h3 h4 h5 h6
end Go.Proofs.YtkgciohebloffaaGreat
