/- Texts joined: RPutT, DifP, RDiffer. -/
import Derived.Test.YtkgciohebloffaaGreatJS49
import Derived.Test.YtkgciohebloffaaGreatJS41
import Derived.Test.YtkgciohebloffaaGreatJS42
import Derived.Test.YtkgciohebloffaaGreatJS08
import Derived.Test.YtkgciohebloffaaGreatJS07
import Derived.Test.YtkgciohebloffaaGreatJS44
import Derived.Test.YtkgciohebloffaaGreatJS16
import Derived.Test.YtkgciohebloffaaGreatJS32
import Derived.Test.YtkgciohebloffaaGreatJS30
import Derived.Deep.RegionHeld3
import Derived.BigQuiet
/- NameFault, PutIn, the reference's. -/
namespace Go.Proofs.YtkgciohebloffaaGreat
open Go.RowKit

set_option maxHeartbeats 1000000 in
theorem r_NameFault (s : ByteArray) (w : World) (hs : s.size ≤ 9223372036854775807) : Calls Tryz.prog 27 #[.string s] w fun e w' => e = .returned (.int .i64 (if nameB s.data.toList = true then 0 else 5)) ∧ Below w.heap.size w w' := by
  cases hn : nameB s.data.toList with
  | true =>
    have HN := hid hn
    clear hn
    go_enter Tryz.func27, Tryz.ntmps27
    go_wp2_with fail
    refine (q_Name s true HN.out _ hs).mono ?_
    rintro e w2 ⟨rfl, hb⟩
    have HB := hid hb
    clear hb
    go_wp2_with fail
    go_ret
    exact ⟨rfl, HB.out⟩
  | false =>
    have HN := hid hn
    clear hn
    go_enter Tryz.func27, Tryz.ntmps27
    go_wp2_with fail
    refine (q_Name s false HN.out _ hs).mono ?_
    rintro e w2 ⟨rfl, hb⟩
    have HB := hid hb
    clear hb
    go_wp2_with fail
    go_ret
    exact ⟨rfl, HB.out⟩

def GotErrO (bf : List Nat) (ans : F × Int) (w : World) (e : Ending) (w' : World) : Prop :=
  (∃ (op n : Int) (s : ByteArray) (a : F) (p : Option Addr) (c : Nat) (fa : List Nat), e = .returned (.tuple #[.agg #[.int .i64 op, .int .i64 n, .string s, .slice p a.len c], .int .i64 ans.2]) ∧ ans.1 = .cons op n s a .nil ∧ RdP w' a p fa ∧ a.len ≤ c ∧ c ≤ 9223372036854775807 ∧ (∀ b ∈ fa, w.heap.size ≤ b ∨ b ∈ bf)) ∧ Below w.heap.size w w'
set_option maxRecDepth 100000 in
set_option maxHeartbeats 4000000 in
theorem r_PutIn (nm : ByteArray) (op n : Int) (s : ByteArray) (a : F) (p : Option Addr) (c : Nat) (fa : List Nat) (bo bn : Int) (bs : ByteArray) (ba : F) (bp : Option Addr) (bc : Nat) (bf : List Nat) (w : World) (hsa : a.size ≤ 900) (h1 : RdP w a p fa) (h2 : a.len ≤ c) (h3 : c ≤ 9223372036854775807) (h4 : (F.cons op n s a .nil).Fits) (g1 : RdP w ba bp bf) (g2 : ba.len ≤ bc) (g3 : bc ≤ 9223372036854775807) (g4 : (F.cons bo bn bs ba .nil).Fits) (hx : errE op n s a 1 = 0) (hy : errE bo bn bs ba 1 = 0) (hn : nameB nm.data.toList = true) :
    Calls Tryz.prog 29 #[.agg #[.int .i64 op, .int .i64 n, .string s, .slice p a.len c], .string nm, .agg #[.int .i64 bo, .int .i64 bn, .string bs, .slice bp ba.len bc]] w (GotErrO bf (putAns nm bo bn bs ba op n s a) w) := by
  have HO := hid (show putAns nm bo bn bs ba op n s a = if 20 < dpE nm (dpE ⟨#[]⟩ 0 bo bs ba) op s a then (nilE, 2) else (putE nm (.cons bo bn bs ba .nil) op n s a, 0) by
    unfold putAns; rw [if_neg (by unfold bothE; rw [hx, if_neg (by simp), hy]; simp), if_neg (by rw [hn]; simp)])
  have HEr := hid (put_err (nm := nm) hx hy)
  have HFt := hid (show (putE nm (.cons bo bn bs ba .nil) op n s a).Fits by
    have h := putF_fits nm g4 _ h4
    rw [putF, putF, F.app_nil] at h
    exact h)
  have E : ∀ (v : World) (o : Obj), Ext (fun _ => False) v (v.alloc o) := fun v o => (Ext.refl v).alloc o
  have k3 := heap_new ((w.alloc (.cells #[.int .i64 op, .int .i64 n, .string s, .slice p a.len c] 28)).alloc (.cells #[.int .i64 bo, .int .i64 bn, .string bs, .slice bp ba.len bc] 28)) (.cells #[.int .i64 0, .int .i64 0, .string ⟨#[]⟩, .slice none 0 0] 28)
  rw [show ((w.alloc (.cells #[.int .i64 op, .int .i64 n, .string s, .slice p a.len c] 28)).alloc (.cells #[.int .i64 bo, .int .i64 bn, .string bs, .slice bp ba.len bc] 28)).heap.size = w.heap.size + 2 by simp] at k3
  have HZ := hid k3
  have EZ := hid (((E w (.cells #[.int .i64 op, .int .i64 n, .string s, .slice p a.len c] 28)).trans (E _ (.cells #[.int .i64 bo, .int .i64 bn, .string bs, .slice bp ba.len bc] 28))).trans (E _ (.cells #[.int .i64 0, .int .i64 0, .string ⟨#[]⟩, .slice none 0 0] 28)))
  have HBZ := hid (show Below w.heap.size w _ from EZ.out.below (Below.refl _ _) (fun _ _ => id))
  have HX := hid (And.intro (h1.ext EZ.out (fun _ _ => id)) (g1.ext EZ.out (fun _ _ => id)))
  have HBf := hid (show ∀ b ∈ bf, b < w.heap.size from g1.lt)
  clear k3 E h1 h4 g1 g4 hx hy hn
  go_enter Tryz.func29, Tryz.ntmps29
  go_wp2_with fail
  refine (r_replaced nm bo bn bs ba (a.size + 1) op n s a p c fa bp bc bf _ (by omega) (by omega) HX.out.1 h2 h3 HX.out.2 g2 g3).mono ?_
  rintro e w3 ⟨⟨o1, n1, s1, a1, p1, c1, f1, rfl, m1, m2, m3, m4, m5⟩, hb3⟩
  have E3 := hid (Ext.of_below (S := fun _ => False) hb3)
  have HB3 := hid (below_ext HBZ.out E3.out (by simp; omega))
  have HG := hid (And.intro m1 (And.intro m2 (And.intro m3 (And.intro m4 m5))))
  have HEr1 := hid (show errE o1 n1 s1 a1 1 = if 20 < dpE nm (dpE ⟨#[]⟩ 0 bo bs ba) op s a then 2 else 0 by
    have h := HEr.out
    rw [m1, errF_cons] at h
    rw [← h]
    by_cases h0 : errE o1 n1 s1 a1 1 = 0
    · rw [if_pos h0, h0]; rfl
    · rw [if_neg h0])
  have HF1 := hid (show (F.cons o1 n1 s1 a1 .nil).Fits by have h := HFt.out; rw [m1] at h; exact h)
  have hz3 : w.heap.size + 3 ≤ w3.heap.size := by have := E3.out.size; simp at this; omega
  have EA := hid ((Ext.refl (S := fun _ => False) w3).alloc (.cells #[.int .i64 o1, .int .i64 n1, .string s1, .slice p1 a1.len c1] 28))
  have HBn := hid (heap_new w3 (.cells #[.int .i64 o1, .int .i64 n1, .string s1, .slice p1 a1.len c1] 28))
  clear m1 m2 m3 m4 m5 hb3
  go_wp2_with fail
  refine (q_ExprFault o1 n1 s1 a1 p1 c1 f1 _ (HG.out.2.1.ext EA.out (fun _ _ => id)) HG.out.2.2.1 HG.out.2.2.2.1 HF1.out).mono ?_
  rintro e w5 ⟨rfl, hb5⟩
  have E5 := hid (EA.out.trans (Ext.of_below (S := fun _ => False) hb5))
  have HB5 := hid (below_ext HB3.out E5.out (by omega))
  have hz5 : w.heap.size + 3 ≤ w5.heap.size := by have := E5.out.size; omega
  obtain ⟨⟨z0, z1, z2, z3⟩, r0, r1, r2, r3⟩ := blk4 ((E3.out.trans E5.out).heap HZ.out id)
  obtain ⟨⟨x0, x1, x2, x3⟩, _⟩ := blk4 ((Ext.of_below (S := fun _ => False) hb5).heap HBn.out id)
  rw [HEr1.out]
  clear hb5
  by_cases hdp : 20 < dpE nm (dpE ⟨#[]⟩ 0 bo bs ba) op s a
  · have HO2 := hid (show putAns nm bo bn bs ba op n s a = (nilE, 2) by rw [HO.out, if_pos hdp])
    rw [if_pos hdp]
    clear hdp
    go_wp2_with fail
    obtain ⟨W, hW, u0, u1, u2, u3, eW⟩ := set4_all (a0 := .int .i64 0) (a1 := .int .i64 0) (a2 := .string ⟨#[]⟩) (a3 := .slice none 0 0) z0 z1 z2 z3
    rw [hW]
    exact bodyPost_ret (v := .tuple #[.agg #[.int .i64 0, .int .i64 0, .string ⟨#[]⟩, .slice none 0 0], .int .i64 2]) (by simp [results, Tryz.results29, go_sem, u0, u1, u2, u3]) rfl ⟨⟨0, 0, ⟨#[]⟩, .nil, none, 0, [], by rw [HO2.out]; rfl, by rw [HO2.out]; rfl, .inl ⟨rfl, rfl⟩, Nat.le_refl _, by omega, by simp⟩, below_at HB5.out eW (by omega) (by omega)⟩
  · have HO2 := hid (show putAns nm bo bn bs ba op n s a = (putE nm (.cons bo bn bs ba .nil) op n s a, 0) by rw [HO.out, if_neg hdp])
    rw [if_neg hdp]
    clear hdp
    go_wp2_with fail
    obtain ⟨W, hW, u0, u1, u2, u3, eW⟩ := set4_all (a0 := .int .i64 o1) (a1 := .int .i64 n1) (a2 := .string s1) (a3 := .slice p1 a1.len c1) z0 z1 z2 z3
    rw [hW]
    exact bodyPost_ret (v := .tuple #[.agg #[.int .i64 o1, .int .i64 n1, .string s1, .slice p1 a1.len c1], .int .i64 0]) (by simp [results, Tryz.results29, go_sem, u0, u1, u2, u3]) rfl ⟨⟨o1, n1, s1, a1, p1, c1, f1, by rw [HO2.out], by rw [HO2.out]; exact HG.out.1, (HG.out.2.1.ext E5.out (fun _ _ => id)).ext eW (fun b hb e => by
      rcases HG.out.2.2.2.2 b hb with h | h
      · simp at h; omega
      · have := HBf.out b h; omega), HG.out.2.2.1, HG.out.2.2.2.1, fun b hb => (HG.out.2.2.2.2 b hb).imp (fun h => by simp at h; omega) id⟩, below_at HB5.out eW (by omega) (by omega)⟩
end Go.Proofs.YtkgciohebloffaaGreat
/- The values of expressions whose only variable has a value. -/
namespace Go.Proofs.YtkgciohebloffaaGreat
open Go.RowKit

theorem mem_upTo {α : Type} [Inhabited α] [DecidableEq α] (d : Array α) (m : Nat) (x : α) : x ∈ Lib.compactUpTo d m ↔ ∃ j, j < m ∧ d[j]! = x := by
  constructor
  · intro h
    unfold Lib.compactUpTo at h
    obtain ⟨j, hj, rfl⟩ := List.mem_map.1 h
    exact ⟨j, by simpa using (List.mem_filter.1 hj).1, rfl⟩
  · rintro ⟨j, hj, rfl⟩
    induction j with
    | zero => exact List.mem_map.2 ⟨0, List.mem_filter.2 ⟨by simpa using hj, Lib.keeps_lt_one d 0 (by omega)⟩, rfl⟩
    | succ j ih =>
      by_cases h : d[j + 1]! = d[j]!
      · rw [h]; exact ih (by omega)
      · exact List.mem_map.2 ⟨j + 1, List.mem_filter.2 ⟨by simpa using hj, Lib.keeps_pos (by simpa using h)⟩, rfl⟩
theorem mem_compact {α : Type} [Inhabited α] [DecidableEq α] (zs : List α) (x : α) : x ∈ Lib.compact zs ↔ x ∈ zs := by
  unfold Lib.compact
  rw [mem_upTo]
  constructor
  · rintro ⟨j, hj, rfl⟩
    have : zs.toArray[j]! = zs[j] := by simp [hj]
    rw [this]; exact List.getElem_mem hj
  · intro h
    obtain ⟨j, hj, rfl⟩ := List.getElem_of_mem h
    exact ⟨j, hj, by simp [hj]⟩
theorem mem_vsOf (f : F) (x : List UInt8) : x ∈ vsOf f ↔ x ∈ nmL (ptF f) := by
  unfold vsOf
  rw [mem_compact]
  exact (List.mergeSort_perm _ _).mem_iff
theorem nmL_cons (op n : Int) (s : ByteArray) (a r : F) (x : List UInt8) : x ∈ nmL (ptF (.cons op n s a r)) ↔ x ∈ nmL (ptF a) ∨ (op = 2 ∧ s.data.toList = x) ∨ x ∈ nmL (ptF r) := by
  have h : ptF (.cons op n s a r) = ptF a ++ ([(op, n, s)] ++ ptF r) := by simp [ptF]
  rw [h, nmL_app, nmL_app, List.mem_append, List.mem_append]
  have h1 : (x ∈ nmL [(op, n, s)]) ↔ (op = 2 ∧ s.data.toList = x) := by
    unfold nmL
    by_cases h2 : op = 2
    · simp [h2, eq_comm]
    · simp [h2]
  rw [h1]
theorem val_same {L : List (ByteArray × Int)} {k : Int} : ∀ f : F, (∀ x ∈ nmL (ptF f), valL x L = k) → valF L f = valG (fun _ => k) f
  | .nil, _ => rfl
  | .cons op n s a r, h => by
    have ha := val_same a (fun x hx => h x ((nmL_cons op n s a r x).2 (.inl hx)))
    have hr := val_same r (fun x hx => h x ((nmL_cons op n s a r x).2 (.inr (.inr hx))))
    simp only [valF, valG, ha, hr]
    by_cases h2 : op = 2
    · have := h s.data.toList ((nmL_cons op n s a r _).2 (.inr (.inl ⟨h2, rfl⟩)))
      simp [h2, this]
    · simp [h2]
/-- Variables with a value. -/
def allAt (vs : List (List UInt8)) (k : Int) : List (ByteArray × Int) := vs.map fun x => (⟨x.toArray⟩, k)
theorem allAt_val {vs : List (List UInt8)} {k : Int} (h : vs.length ≤ 1) : ∀ x ∈ vs, valL x (allAt vs k) = k := by
  intro x hx
  match vs, h, hx with
  | [y], _, hx =>
    simp at hx
    subst hx
    simp [allAt, valL]
/-- Each of two expressions, all of whose variables have a value. -/
theorem val_pair {op n : Int} {s : ByteArray} {a : F} {op' n' : Int} {s' : ByteArray} {a' : F} {k : Int} (h : (vsOf (.cons op n s a (.cons op' n' s' a' .nil))).length ≤ 1) :
    valE (allAt (vsOf (.cons op n s a (.cons op' n' s' a' .nil))) k) op n s a = valEG (fun _ => k) op n s a ∧ valE (allAt (vsOf (.cons op n s a (.cons op' n' s' a' .nil))) k) op' n' s' a' = valEG (fun _ => k) op' n' s' a' := by
  have h1 := val_same (L := allAt (vsOf (.cons op n s a (.cons op' n' s' a' .nil))) k) (k := k) (.cons op n s a (.cons op' n' s' a' .nil)) (fun x hx => allAt_val h x ((mem_vsOf _ x).2 hx))
  rw [valF_cons, valF_cons, valG_cons, valG_cons] at h1
  injection h1 with h2 h3
  injection h3 with h4 _
  exact ⟨h2, h4⟩
theorem nm_short : ∀ (f : F), f.Fits → ∀ x ∈ nmL (ptF f), x.length ≤ 200000
  | .nil, _, x, hx => by simp [ptF, nmL] at hx
  | .cons op n s a r, h, x, hx => by
    rcases (nmL_cons op n s a r x).1 hx with hx | ⟨_, rfl⟩ | hx
    · exact nm_short a h.2.2.2.1 x hx
    · have := h.2.2.1; rw [← size_data] at this; exact this
    · exact nm_short r h.2.2.2.2 x hx
end Go.Proofs.YtkgciohebloffaaGreat
/- DifferAt, the reference's: all values are tried. -/
namespace Go.Proofs.YtkgciohebloffaaGreat
open Go.RowKit Go.WideMaps Go.Maps

set_option maxRecDepth 100000 in
set_option maxHeartbeats 4000000 in
theorem r_DifferAt (op n : Int) (s : ByteArray) (a : F) (p : Option Addr) (c : Nat) (fa : List Nat) (bo bn : Int) (bs : ByteArray) (ba : F) (bp : Option Addr) (bc : Nat) (bf : List Nat) (w : World) (hsa : a.size ≤ 400) (hsb : ba.size ≤ 400) (h1 : RdP w a p fa) (h2 : a.len ≤ c) (h3 : c ≤ 9223372036854775807) (h4 : (F.cons op n s a .nil).Fits) (g1 : RdP w ba bp bf) (g2 : ba.len ≤ bc) (g3 : bc ≤ 9223372036854775807) (g4 : (F.cons bo bn bs ba .nil).Fits) (hx : errE op n s a 1 = 0) (hy : errE bo bn bs ba 1 = 0) :
    Calls Tryz.prog 30 #[.agg #[.int .i64 op, .int .i64 n, .string s, .slice p a.len c], .agg #[.int .i64 bo, .int .i64 bn, .string bs, .slice bp ba.len bc]] w fun e w' => e = .returned (.tuple #[.int .i64 (difAns op n s a bo bn bs ba).1, .bool (difAns op n s a bo bn bs ba).2.1, .int .i64 (difAns op n s a bo bn bs ba).2.2]) ∧ Below w.heap.size w w' := by
  have hmm := @run_makeMap Tryz.prog
  obtain ⟨wz, hwz⟩ : ∃ wz, (w.alloc (.cells #[.int .i64 op, .int .i64 n, .string s, .slice p a.len c] 28)).alloc (.cells #[.int .i64 bo, .int .i64 bn, .string bs, .slice bp ba.len bc] 28) = wz := ⟨_, rfl⟩
  have E : ∀ (v : World) (o : Obj), Ext (fun _ => False) v (v.alloc o) := fun v o => (Ext.refl v).alloc o
  have k1 := heap_new w (.cells #[.int .i64 op, .int .i64 n, .string s, .slice p a.len c] 28)
  have k2 := heap_new (w.alloc (.cells #[.int .i64 op, .int .i64 n, .string s, .slice p a.len c] 28)) (.cells #[.int .i64 bo, .int .i64 bn, .string bs, .slice bp ba.len bc] 28)
  rw [show (w.alloc (.cells #[.int .i64 op, .int .i64 n, .string s, .slice p a.len c] 28)).heap.size = w.heap.size + 1 by simp] at k2
  have HA := hid ((E _ (.cells #[.int .i64 bo, .int .i64 bn, .string bs, .slice bp ba.len bc] 28)).heap k1 id)
  have HY := hid k2
  have EZ := hid ((E w (.cells #[.int .i64 op, .int .i64 n, .string s, .slice p a.len c] 28)).trans (E _ (.cells #[.int .i64 bo, .int .i64 bn, .string bs, .slice bp ba.len bc] 28)))
  rw [hwz] at HA HY EZ
  have hzz : wz.heap.size = w.heap.size + 2 := by rw [← hwz]; simp
  have HX := hid (And.intro (h1.ext EZ.out (fun _ _ => id)) (And.intro (g1.ext EZ.out (fun _ _ => id)) (And.intro h4 g4)))
  have HBZ := hid (show Below w.heap.size w wz from EZ.out.below (Below.refl _ _) (fun _ _ => id))
  have HSm := hid (And.intro (small_of_errE hx) (small_of_errE hy))
  have HO := hid (show difAns op n s a bo bn bs ba = if 1 < (vsOf (.cons op n s a (.cons bo bn bs ba .nil))).length then (0, false, 2) else difV (firstN (apart op n s a bo bn bs ba) 1000 0) by unfold difAns; rw [if_neg (by unfold bothE; rw [hx, if_neg (by simp), hy]; simp)])
  have HVal := hid (fun k h => val_pair (op := op) (n := n) (s := s) (a := a) (op' := bo) (n' := bn) (s' := bs) (a' := ba) (k := k) h)
  have HSh := hid (show ∀ x ∈ vsOf (.cons op n s a (.cons bo bn bs ba .nil)), x.length ≤ 200000 from fun x hx => nm_short (.cons op n s a (.cons bo bn bs ba .nil)) ⟨h4.1, h4.2.1, h4.2.2.1, h4.2.2.2.1, g4⟩ x ((mem_vsOf _ x).1 hx))
  have ER := hid ((Ext.refl (S := fun _ => False) wz).alloc (.cells #[.int .i64 op, .int .i64 n, .string s, .slice p a.len c, .int .i64 bo, .int .i64 bn, .string bs, .slice bp ba.len bc] 28))
  have HV := hid (show Calls Tryz.prog 17 #[.slice (some ⟨wz.heap.size, 0, none⟩) 2 2] (wz.alloc (.cells #[.int .i64 op, .int .i64 n, .string s, .slice p a.len c, .int .i64 bo, .int .i64 bn, .string bs, .slice bp ba.len bc] 28)) (GotStrs (vsOf (.cons op n s a (.cons bo bn bs ba .nil))) (wz.alloc (.cells #[.int .i64 op, .int .i64 n, .string s, .slice p a.len c, .int .i64 bo, .int .i64 bn, .string bs, .slice bp ba.len bc] 28))) by
    obtain ⟨f, hf⟩ := two_row (heap_new wz (.cells #[.int .i64 op, .int .i64 n, .string s, .slice p a.len c, .int .i64 bo, .int .i64 bn, .string bs, .slice bp ba.len bc] 28)) (HX.out.1.ext ER.out (fun _ _ => id)) h2 h3 (HX.out.2.1.ext ER.out (fun _ _ => id)) g2 g3
    have h := r_VarsIn (.cons op n s a (.cons bo bn bs ba .nil)) (some ⟨wz.heap.size, 0, none⟩) 2 f _ (by simp only [F.size]; omega) hf (by simp [F.len]) (by omega)
    rw [show (F.cons op n s a (.cons bo bn bs ba .nil)).len = 2 from rfl] at h
    exact h)
  rw [hzz] at HV
  obtain ⟨⟨x0, x1, x2, x3⟩, _⟩ := blk4 HA.out
  obtain ⟨⟨y0, y1, y2, y3⟩, _⟩ := blk4 HY.out
  clear k1 k2 E h1 h4 g1 g4 hx hy
  generalize hvs0 : vsOf (.cons op n s a (.cons bo bn bs ba .nil)) = vs at HV HO HVal HSh
  clear hvs0
  go_enter Tryz.func30, Tryz.ntmps30
  go_wp2_with fail
  refine HV.out.mono ?_
  rintro e w4 ⟨⟨q, cq, rfl, hst, hv1, hv2, hqb⟩, hb4⟩
  have E4 := hid (ER.out.trans (Ext.of_below (S := fun _ => False) hb4))
  have HB4 := hid (below_ext HBZ.out E4.out (by omega))
  have hz4 : w.heap.size + 2 ≤ w4.heap.size := by have := E4.out.size; omega
  have HSt := hid hst
  have hvI : (vs.length : Int) ≤ 9223372036854775807 := by unfold maxLen at hv2; omega
  have hcqI : (cq : Int) ≤ 9223372036854775807 := by unfold maxLen at hv2; omega
  have hvcI : (vs.length : Int) ≤ cq := by omega
  clear hb4 hst hqb x0 x1 x2 x3 y0 y1 y2 y3 HV ER
  by_cases hvs : 1 < vs.length
  · have hd : decide ((1 : Int) < (vs.length : Int)) = true := by simp; omega
    have HO2 := hid (show difAns op n s a bo bn bs ba = (0, false, 2) by rw [HO.out, if_pos hvs])
    clear hvs
    go_wp2_with fail
    exact bodyPost_ret (v := .tuple #[.int .i64 0, .bool false, .int .i64 2]) (by simp [results, Tryz.results30, go_sem]) rfl ⟨by rw [HO2.out], HB4.out⟩
  have hd : decide ((1 : Int) < (vs.length : Int)) = false := by simp; omega
  have HO2 := hid (show difAns op n s a bo bn bs ba = difV (firstN (apart op n s a bo bn bs ba) 1000 0) by rw [HO.out, if_neg hvs])
  have hvl : vs.length ≤ 1 := by omega
  have HKeep := hid (show ∀ w', Ext (fun _ => False) wz w' → w'.cell? ⟨w.heap.size, 0, none⟩ = some (.int .i64 op) ∧ w'.cell? ⟨w.heap.size, 1, none⟩ = some (.int .i64 n) ∧ w'.cell? ⟨w.heap.size, 2, none⟩ = some (.string s) ∧ w'.cell? ⟨w.heap.size, 3, none⟩ = some (.slice p a.len c) ∧ w'.cell? ⟨w.heap.size + 1, 0, none⟩ = some (.int .i64 bo) ∧ w'.cell? ⟨w.heap.size + 1, 1, none⟩ = some (.int .i64 bn) ∧ w'.cell? ⟨w.heap.size + 1, 2, none⟩ = some (.string bs) ∧ w'.cell? ⟨w.heap.size + 1, 3, none⟩ = some (.slice bp ba.len bc) from fun w' e => by
      obtain ⟨⟨x0, x1, x2, x3⟩, _⟩ := blk4 (e.heap HA.out id)
      obtain ⟨⟨y0, y1, y2, y3⟩, _⟩ := blk4 (e.heap HY.out id)
      exact ⟨x0, x1, x2, x3, y0, y1, y2, y3⟩)
  clear hvs
  go_wp2_with fail
  go_loopw [19] (fun i wr => ∃ k : Nat, k ≤ 1000 ∧ i = .int .i64 k ∧ firstN (apart op n s a bo bn bs ba) 1000 0 = firstN (apart op n s a bo bn bs ba) (1000 - k) k ∧ Ext (fun _ => False) w4 wr) (fun i _ => 1000 - (intOf i).toNat)
  case atStart => exact ⟨0, by omega, rfl, rfl, Ext.refl _⟩
  case round =>
    obtain ⟨k, hk, rfl, hf, her⟩ := hrel
    obtain ⟨wo, hwo⟩ : ∃ wo : World, wo = wr := ⟨wr, rfl⟩
    subst hwo
    have HF := hid hf
    have Er := hid her
    have hzr : w4.heap.size ≤ wo.heap.size := her.size
    clear hf her
    by_cases hlt : k < 1000
    · have hwf := WalkArith.wf_i64 (n := (k : Int)) (by omega)
      go_wp2_with fail
      go_loopw [25] (fun i wq => ∃ j : Nat, j ≤ vs.length ∧ i = .int .i64 j ∧ wq.ownsMap Tryz.prog 9 (plainElem (H := Unit) Tryz.prog 3) wo.heap.size j (tabD ((allAt vs k).take j)) ∧ Below wo.heap.size wo wq) (fun i _ => vs.length - (intOf i).toNat)
      case atStart => exact ⟨0, by omega, rfl, World.ownsMap_made _ _ _ _, (Below.refl _ _).alloc (Nat.le_refl _) _⟩
      case round =>
        obtain ⟨j, hj, rfl, hown, hbl⟩ := hrel
        have HOw := hid hown
        have HBl := hid hbl
        have hzq : wo.heap.size ≤ wr.heap.size := hbl.size
        have Eq := hid (Er.out.trans (Ext.of_below (S := fun _ => False) hbl))
        have hbw : wo.heap.size < wr.heap.size := hown.lt
        clear hown hbl
        by_cases hjl : j < vs.length
        · rcases HSt.out with h0 | ⟨g, rfl, hat⟩
          · rw [h0] at hjl; simp at hjl
          have hxv := List.getElem?_eq_getElem hjl
          have c0 := Eq.out.cell_some (p := ⟨g, j, none⟩) (hat j _ hxv) id
          have HKx := hid (HSh.out _ (List.getElem_mem hjl))
          have HXv := hid (show (allAt vs k)[j]? = some ((⟨(vs[j]).toArray⟩ : ByteArray), (k : Int)) by unfold allAt; rw [List.getElem?_map, hxv]; rfl)
          generalize vs[j] = x at c0 HKx HXv
          have c1 : wr.cell? ⟨g, j, none⟩ = some (.string ⟨x.toArray⟩) := c0
          have hkey : keyOf Tryz.prog 9 (.string ⟨x.toArray⟩) = some (.string (⟨x.toArray⟩ : ByteArray).data.toList) := keyOf_string_mk Tryz.underlying9 (by have h := HKx.out; show x.toArray.size ≤ _; unfold maxLen; simp; omega)
          clear c0 hxv hat
          go_wp2_with (at_mapUpdate; refine wpList_mapUpdate_own _ rfl _ _ _ 43 rfl 9 3 klaw Tryz.underlying43 _ wo.heap.size j _ rfl HOw.out (by unfold maxLen; omega) _ _ _ rfl rfl hkey _ [] (plainElem_int Tryz.underlying3 hwf) ?_; intro w1 hown1 hgrow1)
          have R1 := (tab_step (allAt vs k) j (⟨x.toArray⟩, (k : Int)) HXv.out).symm ▸ hown1
          have R2 := HBl.out.grown hgrow1 (by omega) (fun j hj => by cases hj; exact Nat.le_refl _)
          clear hown1 hgrow1
          go_wp2_with fail
          go_roundw
          case rel => exact ⟨j + 1, by omega, by go_num, R1, R2⟩
          case measure => simp [intOf]; omega
        · have hjl2 : j = vs.length := by omega
          subst hjl2
          have hal : (allAt vs k).length = vs.length := by simp [allAt]
          have HT := hid (show TabAt wr wo.heap.size (allAt vs k) by
            have h := HOw.out
            rw [List.take_of_length_le (by omega)] at h
            unfold TabAt; rw [hal]; exact h)
          have hgood : SlGood (allAt vs k) := fun x hx => by
            unfold allAt at hx
            obtain ⟨y, _, rfl⟩ := List.mem_map.1 hx
            exact ⟨by dsimp only; omega, by dsimp only; omega⟩
          have Ew := hid (E4.out.trans Eq.out)
          have HC1 := hid (fun w' (e : Ext (fun _ => False) wr w') => r_ValueOf (allAt vs k) wo.heap.size hgood (a.size + 1) op n s a p c fa w' (by omega) (HX.out.1.ext (Ew.out.trans e) (fun _ _ => id)) h2 h3 HX.out.2.2.1 HSm.out.1 (ownsMap_ext HT.out e id))
          have HC2 := hid (fun w' (e : Ext (fun _ => False) wr w') => r_ValueOf (allAt vs k) wo.heap.size hgood (ba.size + 1) bo bn bs ba bp bc bf w' (by omega) (HX.out.2.1.ext (Ew.out.trans e) (fun _ _ => id)) g2 g3 HX.out.2.2.2 HSm.out.2 (ownsMap_ext HT.out e id))
          obtain ⟨hv1', hv2'⟩ := HVal.out (k : Int) hvl
          rw [hv1'] at HC1
          rw [hv2'] at HC2
          have HAp := hid (show apart op n s a bo bn bs ba k = (valEG (fun _ => (k : Int)) op n s a != valEG (fun _ => (k : Int)) bo bn bs ba) from rfl)
          generalize valEG (fun _ => (k : Int)) op n s a = va at HC1 HAp
          generalize valEG (fun _ => (k : Int)) bo bn bs ba = vb at HC2 HAp
          have Ed := hid ((Ext.refl (S := fun _ => False) wr).drew)
          obtain ⟨x0, x1, x2, x3, y0, y1, y2, y3⟩ := HKeep.out _ Ew.out
          clear hv1' hv2' hal hgood
          go_wp2_with fail
          go_region_held3 (fun w' => w'.cell? ⟨w.heap.size, 0, none⟩ = some (.int .i64 op) ∧ w'.cell? ⟨w.heap.size, 1, none⟩ = some (.int .i64 n) ∧ w'.cell? ⟨w.heap.size, 2, none⟩ = some (.string s) ∧ w'.cell? ⟨w.heap.size, 3, none⟩ = some (.slice p a.len c) ∧ w'.cell? ⟨w.heap.size + 1, 0, none⟩ = some (.int .i64 bo) ∧ w'.cell? ⟨w.heap.size + 1, 1, none⟩ = some (.int .i64 bn) ∧ w'.cell? ⟨w.heap.size + 1, 2, none⟩ = some (.string bs) ∧ w'.cell? ⟨w.heap.size + 1, 3, none⟩ = some (.slice bp ba.len bc))
            (first
              | (with_reducible exact HKeep.out _ (Ew.out.trans E7.out))
              | (with_reducible exact HKeep.out _ (Ew.out.trans E5.out))
              | (with_reducible exact HKeep.out _ (Ew.out.trans Ed.out))
              | (go_keep; done))
            (first
              | (go_at_call 15; (with_reducible refine (HC1.out _ Ed.out).mono ?_); rintro e w5 ⟨rfl, hb5⟩; have E5 := hid (Ed.out.trans (Ext.of_below (S := fun _ => False) hb5)); clear hb5)
              | (go_at_call 15; (with_reducible refine (HC2.out _ E5.out).mono ?_); rintro e w7 ⟨rfl, hb7⟩; have E7 := hid (E5.out.trans (Ext.of_below (S := fun _ => False) hb7)); clear hb7))
          have E10 := hid (Eq.out.trans E7.out)
          have HB10 := hid (below_ext HB4.out E10.out (by omega))
          have hN : firstN (apart op n s a bo bn bs ba) (1000 - k) k = if apart op n s a bo bn bs ba k = true then some k else firstN (apart op n s a bo bn bs ba) (1000 - (k + 1)) (k + 1) := by
            rw [show 1000 - k = (1000 - (k + 1)) + 1 by omega]; rfl
          have HN := hid hN
          clear hN x0 x1 x2 x3 y0 y1 y2 y3
          cases hab : (va != vb) with
          | true =>
            have HO3 := hid (show difAns op n s a bo bn bs ba = ((k : Int), true, 0) by rw [HO2.out, HF.out, HN.out, HAp.out, hab, if_pos rfl]; rfl)
            go_wp2_with fail
            exact bodyPost_ret (v := .tuple #[.int .i64 k, .bool true, .int .i64 0]) (by simp [results, Tryz.results30, go_sem]) rfl ⟨by rw [HO3.out], HB10.out⟩
          | false =>
            have HF2 := hid (show firstN (apart op n s a bo bn bs ba) 1000 0 = firstN (apart op n s a bo bn bs ba) (1000 - (k + 1)) (k + 1) by rw [HF.out, HN.out, HAp.out, hab, if_neg (by simp)])
            go_wp2_with fail
            go_roundw
            case rel => exact ⟨k + 1, by omega, by go_num, HF2.out, E10.out⟩
            case measure => simp [intOf]; omega
    · have hk2 : k = 1000 := by omega
      subst hk2
      have HO3 := hid (show difAns op n s a bo bn bs ba = (0, false, 0) by rw [HO2.out, HF.out]; rfl)
      have HBr := hid (below_ext HB4.out Er.out (by omega))
      go_wp2_with fail
      exact bodyPost_ret (v := .tuple #[.int .i64 0, .bool false, .int .i64 0]) (by simp [results, Tryz.results30, go_sem]) rfl ⟨by rw [HO3.out], HBr.out⟩
end Go.Proofs.YtkgciohebloffaaGreat
