/- Texts joined: VDepth, VPut, PutP. -/
import Derived.Test.YtkgciohebloffaaGreatJS14
import Derived.Test.YtkgciohebloffaaGreatJS40
import Derived.Test.YtkgciohebloffaaGreatJS25
import Derived.Test.YtkgciohebloffaaGreatJS07
/- depth, the program's: how deep an expression is if a variable has a depth of its own. -/
namespace Go.Proofs.YtkgciohebloffaaGreat
open Go.RowKit

/-- How deep expressions in a row are, the deepest of them. -/
def dpF (s : ByteArray) (own : Int) : F → Int
  | .nil => 0
  | .cons op _ t a r => max (if (op == 2 && t.toList == s.toList) = true then own else dpF s own a + 1) (dpF s own r)
def dpE (s : ByteArray) (own op : Int) (t : ByteArray) (a : F) : Int := if (op == 2 && t.toList == s.toList) = true then own else dpF s own a + 1
theorem dpF_cons (s : ByteArray) (own op n : Int) (t : ByteArray) (a r : F) : dpF s own (.cons op n t a r) = max (dpE s own op t a) (dpF s own r) := rfl
theorem dpF_in (s : ByteArray) (own : Int) (h0 : 0 ≤ own) : ∀ f : F, 0 ≤ dpF s own f ∧ dpF s own f ≤ own + f.size
  | .nil => by simp [dpF, F.size]; omega
  | .cons op n t a r => by
    have h1 := dpF_in s own h0 a
    have h2 := dpF_in s own h0 r
    rw [dpF_cons]; unfold dpE
    simp only [F.size]
    split <;> omega
theorem dpE_in (s : ByteArray) (own op : Int) (t : ByteArray) (a : F) (h0 : 0 ≤ own) : 0 ≤ dpE s own op t a ∧ dpE s own op t a ≤ own + a.size + 1 := by
  have := dpF_in s own h0 a
  unfold dpE; split <;> omega

set_option maxRecDepth 100000 in
set_option maxHeartbeats 2000000 in
theorem v_depth1 (m : Nat) (nm : ByteArray) (own : Int) (h0 : 0 ≤ own) (h1 : own ≤ 1000) (ih : ∀ (op n : Int) (s : ByteArray) (a : F) (p : Option Addr) (c : Nat) (fa : List Nat) (w : World), a.size < m → a.size ≤ 100000 → RdP w a p fa → a.len ≤ c → c ≤ 9223372036854775807 →
      Calls Tryz.prog 73 #[.agg #[.int .i64 op, .int .i64 n, .string s, .slice p a.len c], .string nm, .int .i64 own] w fun e w' => e = .returned (.int .i64 (dpE nm own op s a)) ∧ Below w.heap.size w w')
    (op n : Int) (s : ByteArray) (a : F) (p : Option Addr) (c : Nat) (fa : List Nat) (w : World) (ham : a.size ≤ m) (hbig : a.size ≤ 100000) (hp : RdP w a p fa) (hac : a.len ≤ c) (hc : c ≤ 9223372036854775807) :
    Calls Tryz.prog 73 #[.agg #[.int .i64 op, .int .i64 n, .string s, .slice p a.len c], .string nm, .int .i64 own] w fun e w' => e = .returned (.int .i64 (dpE nm own op s a)) ∧ Below w.heap.size w w' := by
  have HP := hid hp
  have IH := hid ih
  have HB0 := hid (alloc_below w (.cells #[.int .i64 op, .int .i64 n, .string s, .slice p a.len c] 28))
  have hal : (a.len : Int) ≤ 9223372036854775807 := by omega
  have hdb := dpF_in nm own h0 a
  have HDb := hid hdb
  clear hp ih hdb
  by_cases hv : (op == 2 && s.toList == nm.toList) = true
  · obtain ⟨e1, e2⟩ : (op == 2) = true ∧ (s.toList == nm.toList) = true := by simpa using hv
    have HA := hid (show dpE nm own op s a = own by unfold dpE; rw [if_pos hv])
    clear hv
    go_enter Tryz.func73, Tryz.ntmps73
    go_wp2
    go_ret
    exact ⟨ret_int HA.out.symm, HB0.out⟩
  have HA := hid (show dpE nm own op s a = dpF nm own a + 1 by unfold dpE; rw [if_neg hv])
  have hv2 : (op == 2) = false ∨ ((op == 2) = true ∧ (s.toList == nm.toList) = false) := by
    cases h1 : (op == 2)
    · exact .inl rfl
    · right; refine ⟨rfl, ?_⟩; rw [h1] at hv; simpa using hv
  clear hv
  rcases hv2 with e1 | ⟨e1, e2⟩
  all_goals
    go_enter Tryz.func73, Tryz.ntmps73
    go_wp2_with fail
    go_loopw [7, 23] (fun v i wr => ∃ (k : Nat) (j : Int), k ≤ a.len ∧ i = .int .i64 k ∧ v = .int .i64 j ∧ dpF nm own a = max j (dpF nm own (a.drop k)) ∧ 0 ≤ j ∧ Below w.heap.size w wr) (fun _ i _ => a.len - (intOf i).toNat)
    case atStart => exact ⟨0, 0, by omega, rfl, rfl, by have := HDb.out; simp only [F.drop]; omega, by omega, HB0.out⟩
    case round =>
      obtain ⟨k, j, hk, rfl, rfl, hj, hj0, hbl⟩ := hrel
      have HB := hid hbl
      have HJ := hid hj
      have hzr : w.heap.size ≤ wr.heap.size := hbl.size
      have hpr : RdP wr a p fa := HP.out.ext (S := fun _ => False) (Ext.of_below hbl) (fun _ _ => id)
      have hjb : j ≤ 101000 := by have := HDb.out; omega
      clear hbl hj
      by_cases hlt : k < a.len
      · rcases hpr with ⟨h0, _⟩ | ⟨b, o, xa, fb, rfl, _, _, hcell, _, hx⟩
        · rw [h0] at hlt; simp [F.len] at hlt
        obtain ⟨op', n', s', a', p', c', fa', hdrop, x0, x1, x2, x3, hl', hc', hp', _⟩ := hx.at hlt
        have y0 := hcell _ _ x0
        have y1 := hcell _ _ x1
        have y2 := hcell _ _ x2
        have y3 := hcell _ _ x3
        simp only [← Nat.add_assoc, Nat.mul_comm 4 k] at y0 y1 y2 y3
        have hszk := F.size_split k a hdrop
        have HP' := hid (And.intro hp' (And.intro hl' (And.intro hc' (show a'.size < m by omega))))
        have HN := hid (show dpF nm own a = max (max j (dpE nm own op' s' a')) (dpF nm own (a.drop (k + 1))) by rw [HJ.out, hdrop, dpF_cons]; omega)
        have hdi := dpE_in nm own op' s' a' h0
        clear hcell hx x0 x1 x2 x3 hp' hl' hc' hdrop
        go_wp2_with fail
        refine (IH.out op' n' s' a' p' c' fa' _ HP'.out.2.2.2 (by omega) (HP'.out.1.ext (S := fun _ => False) ((Ext.refl _).alloc _) (fun _ _ => id)) HP'.out.2.1 HP'.out.2.2.1).mono ?_
        rintro e w3 ⟨rfl, hb3⟩
        have HB3 := hid ((HB.out.alloc hzr (.cells #[.int .i64 op', .int .i64 n', .string s', .slice p' a'.len c'] 28)).trans (hb3.mono (by simp; omega)))
        clear hb3
        generalize dpE nm own op' s' a' = dd at HN hdi
        obtain ⟨hd0, hd1⟩ := hdi
        go_wp2_with fail
        go_roundw
        case rel => exact ⟨k + 1, max j dd, by omega, by go_num, rfl, HN.out, by omega, HB3.out⟩
        case measure => simp [intOf]; omega
      · have HE := hid (show dpF nm own a = j by rw [HJ.out, F.eq_nil_of_len (f := a.drop k) (by rw [F.len_drop]; omega)]; simp only [dpF]; omega)
        clear hpr
        go_wp2_with fail
        go_ret
        exact ⟨ret_int (by rw [HA.out, HE.out]), HB.out⟩
theorem v_depth (nm : ByteArray) (own : Int) (h0 : 0 ≤ own) (h1 : own ≤ 1000) (m : Nat) : ∀ (op n : Int) (s : ByteArray) (a : F) (p : Option Addr) (c : Nat) (fa : List Nat) (w : World), a.size < m → a.size ≤ 100000 → RdP w a p fa → a.len ≤ c → c ≤ 9223372036854775807 →
      Calls Tryz.prog 73 #[.agg #[.int .i64 op, .int .i64 n, .string s, .slice p a.len c], .string nm, .int .i64 own] w fun e w' => e = .returned (.int .i64 (dpE nm own op s a)) ∧ Below w.heap.size w w' := by
  induction m with
  | zero => intro op n s a p c fa w h; omega
  | succ m ih =>
    intro op n s a p c fa w h h2 h3 h4 h5
    exact v_depth1 m nm own h0 h1 ih op n s a p c fa w (by omega) h2 h3 h4 h5
end Go.Proofs.YtkgciohebloffaaGreat
/- put, the program's: a variable is replaced. -/
namespace Go.Proofs.YtkgciohebloffaaGreat
open Go.RowKit

/-- Expressions in a row with b in the place of the variable nm. -/
def putF (nm : ByteArray) (b : F) : F → F
  | .nil => .nil
  | .cons op n s a r => (if (op == 2 && s.toList == nm.toList) = true then b else .cons op n s (putF nm b a) .nil).app (putF nm b r)
def putE (nm : ByteArray) (b : F) (op n : Int) (s : ByteArray) (a : F) : F := if (op == 2 && s.toList == nm.toList) = true then b else .cons op n s (putF nm b a) .nil
theorem wiF_put (nm : ByteArray) (b : F) : ∀ a : F, wiF (putE nm b) a = putF nm b a
  | .nil => rfl
  | .cons op n s a r => by rw [wiF, putF, wiF_put nm b r]; rfl

/-- The name and the expression that a closure of put has. -/
def ByAt (W : World) (nb bb : Nat) (nm : ByteArray) (o n : Int) (s : ByteArray) (a : F) (p : Option Addr) (c : Nat) (f : List Nat) : Prop :=
  W.cell? ⟨nb, 0, none⟩ = some (.string nm) ∧ At4 W bb 0 o n s p a.len c ∧ RdP W a p f ∧ a.len ≤ c ∧ c ≤ 9223372036854775807
theorem ByAt.ext {W W' : World} {nb bb : Nat} {nm : ByteArray} {o n : Int} {s : ByteArray} {a : F} {p : Option Addr} {c : Nat} {f : List Nat} (h : ByAt W nb bb nm o n s a p c f) (e : Ext (fun _ => False) W W') : ByAt W' nb bb nm o n s a p c f :=
  ⟨e.cell_some h.1 id, h.2.1.ext e, h.2.2.1.ext e (fun _ _ => id), h.2.2.2⟩
/-- What is said of put. -/
def PutSaid (m : Nat) (nm : ByteArray) (bo bn : Int) (bs : ByteArray) (ba : F) : Prop := ∀ (op n : Int) (s : ByteArray) (a : F) (p : Option Addr) (c : Nat) (fa : List Nat) (bp : Option Addr) (bc : Nat) (bf : List Nat) (w : World), a.size < m → a.size ≤ 100000 → RdP w a p fa → a.len ≤ c → c ≤ 9223372036854775807 → RdP w ba bp bf → ba.len ≤ bc → bc ≤ 9223372036854775807 →
  Calls Tryz.prog 74 #[.agg #[.int .i64 op, .int .i64 n, .string s, .slice p a.len c], .string nm, .agg #[.int .i64 bo, .int .i64 bn, .string bs, .slice bp ba.len bc]] w (GotNew (putE nm (.cons bo bn bs ba .nil) op n s a) w)

set_option maxRecDepth 100000 in
set_option maxHeartbeats 2000000 in
theorem v_put_1 (m : Nat) (nm : ByteArray) (bo bn : Int) (bs : ByteArray) (ba : F) (ih : PutSaid m nm bo bn bs ba) (nb bb : Nat) (bp : Option Addr) (bc : Nat) (bf : List Nat) (op n : Int) (s : ByteArray) (a : F) (p : Option Addr) (c : Nat) (fa : List Nat) (w : World) (ham : a.size < m) (hbig : a.size ≤ 100000) (hp : RdP w a p fa) (hac : a.len ≤ c) (hc : c ≤ 9223372036854775807) (hb : ByAt w nb bb nm bo bn bs ba bp bc bf) :
    Calls Tryz.prog 121 #[.agg #[.int .i64 op, .int .i64 n, .string s, .slice p a.len c], .pointer (some ⟨nb, 0, none⟩), .pointer (some ⟨bb, 0, none⟩)] w (GotNew (putE nm (.cons bo bn bs ba .nil) op n s a) w) := by
  have EZ := hid (((Ext.refl (S := fun _ => False) w).alloc (.cells #[.int .i64 op, .int .i64 n, .string s, .slice p a.len c] 28)).alloc (.cells #[.int .i64 0, .int .i64 0, .string ⟨#[]⟩, .slice none 0 0] 28))
  have HBy := hid (hb.ext EZ.out)
  have HP := hid (hp.ext EZ.out (fun _ _ => id))
  have HR := hid (show ((w.alloc (.cells #[.int .i64 op, .int .i64 n, .string s, .slice p a.len c] 28)).alloc (.cells #[.int .i64 0, .int .i64 0, .string ⟨#[]⟩, .slice none 0 0] 28)).heap[w.heap.size + 1]? = some (.cells #[.int .i64 0, .int .i64 0, .string ⟨#[]⟩, .slice none 0 0] 28 (0, 0)) by
    have h2 := heap_new (w.alloc (.cells #[.int .i64 op, .int .i64 n, .string s, .slice p a.len c] 28)) (.cells #[.int .i64 0, .int .i64 0, .string ⟨#[]⟩, .slice none 0 0] 28)
    rwa [show (w.alloc (.cells #[.int .i64 op, .int .i64 n, .string s, .slice p a.len c] 28)).heap.size = w.heap.size + 1 by simp] at h2)
  have HC := hid (ih op n s a p c fa bp bc bf _ ham hbig HP.out hac hc HBy.out.2.2.1 HBy.out.2.2.2.1 HBy.out.2.2.2.2)
  have n0 := HBy.out.1
  obtain ⟨b0, b1, b2, b3⟩ := HBy.out.2.1
  simp only [Nat.zero_add] at b1 b2 b3
  clear hp hb ih
  go_enter Tryz.func121, Tryz.ntmps121
  go_wp2_with fail
  refine HC.out.mono ?_
  rintro e w3 ⟨⟨o1, n1, s1, a1, p1, c1, f1, rfl, h1, h2, h3, h4, h5⟩, hb3⟩
  have E3 := hid (Ext.of_below (S := fun _ => False) hb3)
  have HB3 := hid (below_ext (show Below w.heap.size w _ from EZ.out.below (Below.refl _ _) (fun _ _ => id)) E3.out (by simp; omega))
  obtain ⟨⟨z0, z1, z2, z3⟩, r0, r1, r2, r3⟩ := blk4 (E3.out.heap HR.out id)
  have hz3 : w.heap.size + 1 < w3.heap.size := World.block_lt_of_cell? _ _ z0
  have HG := hid (And.intro h1 (And.intro h2 (And.intro h3 (And.intro h4 h5))))
  clear h1 h2 h3 h4 h5 hb3 n0 b0 b1 b2 b3
  go_wp2_with fail
  obtain ⟨W, hW, u0, u1, u2, u3, eW⟩ := set4_all (a0 := .int .i64 o1) (a1 := .int .i64 n1) (a2 := .string s1) (a3 := .slice p1 a1.len c1) z0 z1 z2 z3
  rw [hW]
  exact bodyPost_ret (v := .agg #[.int .i64 o1, .int .i64 n1, .string s1, .slice p1 a1.len c1]) (by simp [results, Tryz.results121, go_sem, u0, u1, u2, u3]) rfl ⟨⟨o1, n1, s1, a1, p1, c1, f1, rfl, HG.out.1, HG.out.2.1.ext eW (fun b hb e => by have h := HG.out.2.2.2.2 b hb; simp at h; omega), HG.out.2.2.1, HG.out.2.2.2.1, fun b hb => by have h := HG.out.2.2.2.2 b hb; simp at h; omega⟩, below_at HB3.out eW (by omega) (by omega)⟩

set_option maxRecDepth 100000 in
set_option maxHeartbeats 4000000 in
theorem v_put1 (m : Nat) (nm : ByteArray) (bo bn : Int) (bs : ByteArray) (ba : F) (hbb : ba.size ≤ 100000) (ih : PutSaid m nm bo bn bs ba) (op n : Int) (s : ByteArray) (a : F) (p : Option Addr) (c : Nat) (fa : List Nat) (bp : Option Addr) (bc : Nat) (bf : List Nat) (w : World) (ham : a.size ≤ m) (hbig : a.size ≤ 100000) (hp : RdP w a p fa) (hac : a.len ≤ c) (hc : c ≤ 9223372036854775807) (hq : RdP w ba bp bf) (hbl : ba.len ≤ bc) (hbc : bc ≤ 9223372036854775807) :
    Calls Tryz.prog 74 #[.agg #[.int .i64 op, .int .i64 n, .string s, .slice p a.len c], .string nm, .agg #[.int .i64 bo, .int .i64 bn, .string bs, .slice bp ba.len bc]] w (GotNew (putE nm (.cons bo bn bs ba .nil) op n s a) w) := by
  have hlz := F.len_le_size a
  have HQ := hid (And.intro hp hq)
  have E : ∀ (v : World) (o : Obj), Ext (fun _ => False) v (v.alloc o) := fun v o => (Ext.refl v).alloc o
  have hmf : ∀ (fn : Fn) (first cap : Array Value) (w : World), (Instr.makeFunc fn first cap).run Tryz.prog w = .ok (.func fn first cap) w := fun _ _ _ _ => rfl
  have h1 := heap_new w (.cells #[.int .i64 op, .int .i64 n, .string s, .slice p a.len c] 28)
  have h2 := heap_new (w.alloc (.cells #[.int .i64 op, .int .i64 n, .string s, .slice p a.len c] 28)) (.cells #[.string nm] 9)
  have h3 := heap_new ((w.alloc (.cells #[.int .i64 op, .int .i64 n, .string s, .slice p a.len c] 28)).alloc (.cells #[.string nm] 9)) (.cells #[.int .i64 bo, .int .i64 bn, .string bs, .slice bp ba.len bc] 28)
  have h4 := heap_new (((w.alloc (.cells #[.int .i64 op, .int .i64 n, .string s, .slice p a.len c] 28)).alloc (.cells #[.string nm] 9)).alloc (.cells #[.int .i64 bo, .int .i64 bn, .string bs, .slice bp ba.len bc] 28)) (.cells #[.int .i64 0, .int .i64 0, .string ⟨#[]⟩, .slice none 0 0] 28)
  rw [show (w.alloc (.cells #[.int .i64 op, .int .i64 n, .string s, .slice p a.len c] 28)).heap.size = w.heap.size + 1 by simp] at h2
  rw [show ((w.alloc (.cells #[.int .i64 op, .int .i64 n, .string s, .slice p a.len c] 28)).alloc (.cells #[.string nm] 9)).heap.size = w.heap.size + 2 by simp] at h3
  rw [show (((w.alloc (.cells #[.int .i64 op, .int .i64 n, .string s, .slice p a.len c] 28)).alloc (.cells #[.string nm] 9)).alloc (.cells #[.int .i64 bo, .int .i64 bn, .string bs, .slice bp ba.len bc] 28)).heap.size = w.heap.size + 3 by simp] at h4
  have HB := hid ((E _ (.cells #[.int .i64 0, .int .i64 0, .string ⟨#[]⟩, .slice none 0 0] 28)).heap ((E _ (.cells #[.int .i64 bo, .int .i64 bn, .string bs, .slice bp ba.len bc] 28)).heap ((E _ (.cells #[.string nm] 9)).heap h1 id) id) id)
  have HN := hid ((E _ (.cells #[.int .i64 0, .int .i64 0, .string ⟨#[]⟩, .slice none 0 0] 28)).heap ((E _ (.cells #[.int .i64 bo, .int .i64 bn, .string bs, .slice bp ba.len bc] 28)).heap h2 id) id)
  have HY := hid ((E _ (.cells #[.int .i64 0, .int .i64 0, .string ⟨#[]⟩, .slice none 0 0] 28)).heap h3 id)
  have HR := hid h4
  have EZ := hid ((((E w (.cells #[.int .i64 op, .int .i64 n, .string s, .slice p a.len c] 28)).trans (E _ (.cells #[.string nm] 9))).trans (E _ (.cells #[.int .i64 bo, .int .i64 bn, .string bs, .slice bp ba.len bc] 28))).trans (E _ (.cells #[.int .i64 0, .int .i64 0, .string ⟨#[]⟩, .slice none 0 0] 28)))
  have IH := hid ih
  clear h1 h2 h3 h4 E hp hq ih
  by_cases hv : (op == 2 && s.toList == nm.toList) = true
  · obtain ⟨e1, e2⟩ : (op == 2) = true ∧ (s.toList == nm.toList) = true := by simpa using hv
    have HE := hid (show putE nm (.cons bo bn bs ba .nil) op n s a = .cons bo bn bs ba .nil by unfold putE; rw [if_pos hv])
    clear hv
    go_enter Tryz.func74, Tryz.ntmps74
    go_wp2_with fail
    refine (f_Expr (ba.size + 1) bo bn bs ba bp bc bf _ (by omega) hbb (HQ.out.2.ext EZ.out (fun _ _ => id)) hbl hbc).mono ?_
    rintro e w5 ⟨⟨o1, n1, s1, a1, p1, c1, f1, rfl, h1, h2, h3, h4, h5⟩, hb5⟩
    have E5 := hid (Ext.of_below (S := fun _ => False) hb5)
    have HB5 := hid (below_ext (show Below w.heap.size w _ from EZ.out.below (Below.refl _ _) (fun _ _ => id)) E5.out (by simp; omega))
    obtain ⟨⟨z0, z1, z2, z3⟩, r0, r1, r2, r3⟩ := blk4 (E5.out.heap HR.out id)
    have hz5 : w.heap.size + 3 < w5.heap.size := World.block_lt_of_cell? _ _ z0
    have HG := hid (And.intro h1 (And.intro h2 (And.intro h3 (And.intro h4 h5))))
    clear h1 h2 h3 h4 h5 hb5
    go_wp2_with fail
    obtain ⟨W, hW, u0, u1, u2, u3, eW⟩ := set4_all (a0 := .int .i64 o1) (a1 := .int .i64 n1) (a2 := .string s1) (a3 := .slice p1 a1.len c1) z0 z1 z2 z3
    rw [hW]
    exact bodyPost_ret (v := .agg #[.int .i64 o1, .int .i64 n1, .string s1, .slice p1 a1.len c1]) (by simp [results, Tryz.results74, go_sem, u0, u1, u2, u3]) rfl ⟨⟨o1, n1, s1, a1, p1, c1, f1, rfl, HE.out.trans HG.out.1, HG.out.2.1.ext eW (fun b hb e => by have h := HG.out.2.2.2.2 b hb; simp at h; omega), HG.out.2.2.1, HG.out.2.2.2.1, fun b hb => by have h := HG.out.2.2.2.2 b hb; simp at h; omega⟩, below_at HB5.out eW (by omega) (by omega)⟩
  · have hv2 : (op == 2) = false ∨ ((op == 2) = true ∧ (s.toList == nm.toList) = false) := by
      cases h1 : (op == 2)
      · exact .inl rfl
      · right; refine ⟨rfl, ?_⟩; rw [h1] at hv; simpa using hv
    have HE := hid (show putE nm (.cons bo bn bs ba .nil) op n s a = .cons op n s (putF nm (.cons bo bn bs ba .nil) a) .nil by unfold putE; rw [if_neg hv])
    have HWi := hid (v_withArgs 121 #[.pointer (some ⟨w.heap.size + 1, 0, none⟩), .pointer (some ⟨w.heap.size + 1 + 1, 0, none⟩)] (putE nm (.cons bo bn bs ba .nil)) op n s a p c fa ((((w.alloc (.cells #[.int .i64 op, .int .i64 n, .string s, .slice p a.len c] 28)).alloc (.cells #[.string nm] 9)).alloc (.cells #[.int .i64 bo, .int .i64 bn, .string bs, .slice bp ba.len bc] 28)).alloc (.cells #[.int .i64 0, .int .i64 0, .string ⟨#[]⟩, .slice none 0 0] 28)) (enters_of Tryz.func121 (by kernel_rfl) rfl) (by omega) (fun k op' n' s' a' r p' c' fa' w' hd e hp' hl' hc' => by
      have hszk : a'.size + 1 ≤ a.size := by
        have hk : k < a.len := by
          rcases Nat.lt_or_ge k a.len with h | h
          · exact h
          · rw [F.eq_nil_of_len (f := a.drop k) (by rw [F.len_drop]; omega)] at hd; cases hd
        obtain ⟨o2, n2, s2, a2, h2⟩ := F.drop_cons hk
        have h3 := F.size_split k a h2
        rw [h2] at hd
        injection hd with _ _ _ h4 _
        subst h4; omega
      obtain ⟨⟨y0, y1, y2, y3⟩, _⟩ := blk4 HY.out
      exact v_put_1 m nm bo bn bs ba IH.out (w.heap.size + 1) (w.heap.size + 1 + 1) bp bc bf op' n' s' a' p' c' fa' w' (by omega) (by omega) hp' hl' hc' ((show ByAt ((((w.alloc (.cells #[.int .i64 op, .int .i64 n, .string s, .slice p a.len c] 28)).alloc (.cells #[.string nm] 9)).alloc (.cells #[.int .i64 bo, .int .i64 bn, .string bs, .slice bp ba.len bc] 28)).alloc (.cells #[.int .i64 0, .int .i64 0, .string ⟨#[]⟩, .slice none 0 0] 28)) (w.heap.size + 1) (w.heap.size + 1 + 1) nm bo bn bs ba bp bc bf from ⟨by rw [cell_of_row _ _ _ _ _ _ HN.out]; rfl, ⟨y0, y1, y2, y3⟩, HQ.out.2.ext EZ.out (fun _ _ => id), hbl, hbc⟩).ext e)) (HQ.out.1.ext EZ.out (fun _ _ => id)) hac hc)
    rw [wiF_put] at HWi
    clear hv
    rcases hv2 with e1 | ⟨e1, e2⟩
    all_goals
      go_enter Tryz.func74, Tryz.ntmps74
      go_wp2_with fail
      refine HWi.out.mono ?_
      rintro e w5 ⟨⟨o1, n1, s1, a1, p1, c1, f1, rfl, h1, h2, h3, h4, h5⟩, hb5⟩
      have E5 := hid (Ext.of_below (S := fun _ => False) hb5)
      have HB5 := hid (below_ext (show Below w.heap.size w _ from EZ.out.below (Below.refl _ _) (fun _ _ => id)) E5.out (by simp; omega))
      obtain ⟨⟨z0, z1, z2, z3⟩, r0, r1, r2, r3⟩ := blk4 (E5.out.heap HR.out id)
      have hz5 : w.heap.size + 3 < w5.heap.size := World.block_lt_of_cell? _ _ z0
      have HG := hid (And.intro h1 (And.intro h2 (And.intro h3 (And.intro h4 h5))))
      clear h1 h2 h3 h4 h5 hb5
      go_wp2_with fail
      obtain ⟨W, hW, u0, u1, u2, u3, eW⟩ := set4_all (a0 := .int .i64 o1) (a1 := .int .i64 n1) (a2 := .string s1) (a3 := .slice p1 a1.len c1) z0 z1 z2 z3
      rw [hW]
      exact bodyPost_ret (v := .agg #[.int .i64 o1, .int .i64 n1, .string s1, .slice p1 a1.len c1]) (by simp [results, Tryz.results74, go_sem, u0, u1, u2, u3]) rfl ⟨⟨o1, n1, s1, a1, p1, c1, f1, rfl, HE.out.trans HG.out.1, HG.out.2.1.ext eW (fun b hb e => by have h := HG.out.2.2.2.2 b hb; simp at h; omega), HG.out.2.2.1, HG.out.2.2.2.1, fun b hb => by have h := HG.out.2.2.2.2 b hb; simp at h; omega⟩, below_at HB5.out eW (by omega) (by omega)⟩
theorem v_put (nm : ByteArray) (bo bn : Int) (bs : ByteArray) (ba : F) (hbb : ba.size ≤ 100000) (m : Nat) : PutSaid m nm bo bn bs ba := by
  induction m with
  | zero => intro op n s a p c fa bp bc bf w h; omega
  | succ m ih => intro op n s a p c fa bp bc bf w h h1 h2 h3 h4 h5 h6 h7; exact v_put1 m nm bo bn bs ba hbb ih op n s a p c fa bp bc bf w (by omega) h1 h2 h3 h4 h5 h6 h7
end Go.Proofs.YtkgciohebloffaaGreat
/- What is wrong with an expression in which a variable was replaced: nothing but its depth. -/
namespace Go.Proofs.YtkgciohebloffaaGreat
open Go.RowKit

/-- How deep expressions in a row are. -/
def hgt : F → Int
  | .nil => 0
  | .cons _ _ _ a r => max (hgt a + 1) (hgt r)
theorem hgt_pos : ∀ f, 0 ≤ hgt f
  | .nil => by simp [hgt]
  | .cons _ _ _ a r => by simp only [hgt]; have := hgt_pos a; omega
theorem hgt_app : ∀ f g : F, hgt (f.app g) = max (hgt f) (hgt g)
  | .nil, g => by simp only [F.app, hgt]; have := hgt_pos g; omega
  | .cons _ _ _ a r, g => by simp only [F.app, hgt, hgt_app r g]; omega
/-- Nothing is wrong but perhaps the depth. -/
def OkF : F → Prop
  | .nil => True
  | .cons op n s a r => (¬ (op < 1 ∨ 9 < op) ∧ ¬ ((a.len : Int) ≠ ar op ∨ (op ≠ 1 ∧ n ≠ 0) ∨ (op ≠ 2 ∧ s.size ≠ 0)) ∧ ¬ (n < 0 ∨ 999 < n) ∧ ¬ (op = 2 ∧ nameB s.data.toList = false)) ∧ OkF a ∧ OkF r
theorem ok_app : ∀ {f g : F}, OkF f → OkF g → OkF (f.app g)
  | .nil, _, _, h => h
  | .cons _ _ _ _ _, _, h, k => ⟨h.1, h.2.1, ok_app h.2.2 k⟩
theorem ok_errE {op n : Int} {s : ByteArray} {a : F} {d : Int} (h : errE op n s a d = 0) : (¬ (op < 1 ∨ 9 < op) ∧ ¬ ((a.len : Int) ≠ ar op ∨ (op ≠ 1 ∧ n ≠ 0) ∨ (op ≠ 2 ∧ s.size ≠ 0)) ∧ ¬ (n < 0 ∨ 999 < n) ∧ ¬ (op = 2 ∧ nameB s.data.toList = false)) ∧ errF a (d + 1) = 0 := by
  unfold errE at h
  split at h
  · cases h
  split at h
  · cases h
  split at h
  · cases h
  split at h
  · cases h
  split at h
  · cases h
  rename_i h1 h2 h3 h4 h5
  exact ⟨⟨h2, h3, h4, h5⟩, h⟩
theorem ok_errF : ∀ (f : F) (d : Int), errF f d = 0 → OkF f
  | .nil, _, _ => trivial
  | .cons op n s a r, d, h => by
    rw [errF_cons] at h
    split at h
    · rename_i h1
      obtain ⟨k1, k2⟩ := ok_errE h1
      exact ⟨k1, ok_errF a (d + 1) k2, ok_errF r d h⟩
    · rename_i h1; exact absurd h h1
theorem errF_ok : ∀ (f : F) (d : Int), OkF f → 1 ≤ d → d ≤ 21 → errF f d = if d - 1 + hgt f ≤ 20 then 0 else 2
  | .nil, d, _, _, h2 => by rw [if_pos (by simp only [hgt]; omega)]; rfl
  | .cons op n s a r, d, h, h1, h2 => by
    obtain ⟨⟨k1, k2, k3, k4⟩, ha, hr⟩ := h
    have hp := hgt_pos a
    have hE : errE op n s a d = if d - 1 + (hgt a + 1) ≤ 20 then 0 else 2 := by
      unfold errE
      by_cases hd : 20 < d
      · rw [if_pos hd, if_neg (by omega)]
      · rw [if_neg hd, if_neg k1, if_neg k2, if_neg k3, if_neg k4, errF_ok a (d + 1) ha (by omega) (by omega)]
        by_cases h' : d - 1 + (hgt a + 1) ≤ 20
        · rw [if_pos h', if_pos (by omega)]
        · rw [if_neg h', if_neg (by omega)]
    rw [errF_cons, hE, errF_ok r d hr h1 h2]
    have hH : hgt (.cons op n s a r) = max (hgt a + 1) (hgt r) := rfl
    by_cases h' : d - 1 + (hgt a + 1) ≤ 20
    · rw [if_pos h', if_pos rfl]
      by_cases h3 : d - 1 + hgt r ≤ 20
      · rw [if_pos h3, if_pos (by omega)]
      · rw [if_neg h3, if_neg (by omega)]
    · rw [if_neg h', if_neg (by omega), if_neg (by omega)]
theorem putF_len (nm : ByteArray) {b : F} (hb : b.len = 1) : ∀ f : F, (putF nm b f).len = f.len
  | .nil => rfl
  | .cons op n s a r => by
    rw [putF, F.len_app, putF_len nm hb r]
    simp only [F.len]
    split
    · rw [hb]; omega
    · simp only [F.len]; omega
theorem putF_ok (nm : ByteArray) {b : F} (hb : b.len = 1) (hk : OkF b) : ∀ f : F, OkF f → OkF (putF nm b f)
  | .nil, _ => trivial
  | .cons op n s a r, h => by
    rw [putF]
    refine ok_app ?_ (putF_ok nm hb hk r h.2.2)
    split
    · exact hk
    · refine ⟨?_, putF_ok nm hb hk a h.2.1, trivial⟩
      rw [putF_len nm hb a]; exact h.1
theorem putF_fits (nm : ByteArray) {b : F} (hk : b.Fits) : ∀ f : F, f.Fits → (putF nm b f).Fits
  | .nil, _ => trivial
  | .cons op n s a r, h => by
    rw [putF]
    refine F.fits_app ?_ (putF_fits nm hk r h.2.2.2.2)
    split
    · exact hk
    · exact ⟨h.1, h.2.1, h.2.2.1, putF_fits nm hk a h.2.2.2.1, trivial⟩
theorem hgt_one (op n : Int) (s : ByteArray) (a : F) : hgt (.cons op n s a .nil) = hgt a + 1 := by
  simp only [hgt]; have := hgt_pos a; omega
theorem hgt_put (nm : ByteArray) (b : F) : ∀ f : F, hgt (putF nm b f) = dpF nm (hgt b) f
  | .nil => rfl
  | .cons op n s a r => by
    rw [putF, hgt_app, hgt_put nm b r, dpF]
    split
    · rfl
    · rw [hgt_one, hgt_put nm b a]
theorem name_ne {s : ByteArray} (h : nameB s.data.toList = true) : (s.toList == (⟨#[]⟩ : ByteArray).toList) = false := by
  cases hs : s.toList == (⟨#[]⟩ : ByteArray).toList with
  | false => rfl
  | true =>
    have h1 : s.toList = (⟨#[]⟩ : ByteArray).toList := by simpa using hs
    have h2 : s = ⟨#[]⟩ := by
      have h3 : s.toList = s.data.toList := by first | exact ByteArray.toList_eq s | simp
      have h4 : (⟨#[]⟩ : ByteArray).toList = [] := by first | rfl | decide | simp
      rw [h3, h4] at h1
      cases s with
      | mk d => congr 1; exact Array.toList_inj.1 (by simpa using h1)
    rw [h2] at h
    exact absurd h (by decide)
theorem dpF_hgt : ∀ f : F, OkF f → dpF ⟨#[]⟩ 0 f = hgt f
  | .nil, _ => rfl
  | .cons op n s a r, h => by
    rw [dpF, dpF_hgt r h.2.2, dpF_hgt a h.2.1]
    have h2 : ¬ ((op == 2 && s.toList == (⟨#[]⟩ : ByteArray).toList) = true) := by
      intro h'
      simp only [Bool.and_eq_true] at h'
      have h3 : op = 2 := by simpa using h'.1
      have h4 : nameB s.data.toList = true := by
        cases hn : nameB s.data.toList with
        | true => rfl
        | false => exact absurd ⟨h3, hn⟩ h.1.2.2.2
      rw [name_ne h4] at h'
      cases h'.2
    rw [if_neg h2]; rfl
/-- The error of an expression in which a variable was replaced. -/
theorem put_err {nm : ByteArray} {bo bn : Int} {bs : ByteArray} {ba : F} {op n : Int} {s : ByteArray} {a : F} (he : errE op n s a 1 = 0) (hb : errE bo bn bs ba 1 = 0) :
    errF (putE nm (.cons bo bn bs ba .nil) op n s a) 1 = if 20 < dpE nm (dpE ⟨#[]⟩ 0 bo bs ba) op s a then 2 else 0 := by
  have ke : OkF (.cons op n s a .nil) := by
    obtain ⟨h1, h2⟩ := ok_errE he
    exact ⟨h1, ok_errF a _ h2, trivial⟩
  have kb : OkF (.cons bo bn bs ba .nil) := by
    obtain ⟨h1, h2⟩ := ok_errE hb
    exact ⟨h1, ok_errF ba _ h2, trivial⟩
  have h1 := putF_ok nm (b := .cons bo bn bs ba .nil) rfl kb _ ke
  have h2 : putF nm (.cons bo bn bs ba .nil) (.cons op n s a .nil) = putE nm (.cons bo bn bs ba .nil) op n s a := by
    rw [putF, putF, F.app_nil]; rfl
  have h3 := hgt_put nm (.cons bo bn bs ba .nil) (.cons op n s a .nil)
  have h4 : dpE ⟨#[]⟩ 0 bo bs ba = hgt (.cons bo bn bs ba .nil) := by
    have h := dpF_hgt _ kb
    rw [dpF_cons] at h
    have h5 := (dpE_in ⟨#[]⟩ 0 bo bs ba (by omega)).1
    rw [← h]; simp only [dpF]; omega
  rw [h2] at h1 h3
  rw [errF_ok _ 1 h1 (by omega) (by omega), h3, dpF_cons, h4]
  have h5 := (dpE_in nm (hgt (.cons bo bn bs ba .nil)) op s a (hgt_pos _)).1
  have h7 : dpF nm (hgt (.cons bo bn bs ba .nil)) .nil = 0 := rfl
  by_cases h6 : 20 < dpE nm (hgt (.cons bo bn bs ba .nil)) op s a
  · rw [if_pos h6, if_neg (by omega)]
  · rw [if_neg h6, if_pos (by omega)]
end Go.Proofs.YtkgciohebloffaaGreat
