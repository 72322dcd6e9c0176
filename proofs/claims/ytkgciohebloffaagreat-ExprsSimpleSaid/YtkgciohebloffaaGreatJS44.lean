/- Texts joined: VDiffer, RRul0. -/
import Derived.Test.YtkgciohebloffaaGreatJS42
import Derived.Test.YtkgciohebloffaaGreatJS43
import Derived.Test.YtkgciohebloffaaGreatJS28
import Derived.Deep.RegionHeld3
import Derived.Test.YtkgciohebloffaaGreatJS25
import Derived.Test.YtkgciohebloffaaGreatJS13
/- Differ, the program's. -/
namespace Go.Proofs.YtkgciohebloffaaGreat
open Go.RowKit

/-- The least number from n on, of m, that has a property. -/
def firstN (g : Nat → Bool) : Nat → Nat → Option Nat
  | 0, _ => none
  | m + 1, n => if g n = true then some n else firstN g m (n + 1)
/-- Whether two expressions differ if every variable is k. -/
def apart (op n : Int) (s : ByteArray) (a : F) (op' n' : Int) (s' : ByteArray) (a' : F) (k : Nat) : Bool := valEG (fun _ => (k : Int)) op n s a != valEG (fun _ => (k : Int)) op' n' s' a'
def difV (o : Option Nat) : Int × Bool × Int := match o with | some k => ((k : Int), true, 0) | none => (0, false, 0)
/-- What Differ answers. -/
def difAns (op n : Int) (s : ByteArray) (a : F) (op' n' : Int) (s' : ByteArray) (a' : F) : Int × Bool × Int :=
  if bothE (errE op n s a 1) (errE op' n' s' a' 1) ≠ 0 then (0, false, bothE (errE op n s a 1) (errE op' n' s' a' 1))
  else if 1 < (vsOf (.cons op n s a (.cons op' n' s' a' .nil))).length then (0, false, 2)
  else difV (firstN (apart op n s a op' n' s' a') 1000 0)

set_option maxHeartbeats 1000000 in
theorem v_only (s : ByteArray) (nb : Nat) (k : Int) (w : World) (h : w.cell? ⟨nb, 0, none⟩ = some (.int .i64 k)) :
    Calls Tryz.prog 75 #[.string s, .pointer (some ⟨nb, 0, none⟩)] w fun e w' => e = .returned (.int .i64 k) ∧ Below w.heap.size w w' := by
  go_enter Tryz.func75, Tryz.ntmps75
  go_wp2_with fail
  go_ret
  exact ⟨rfl, Below.refl _ _⟩
theorem only_ok {nb : Nat} {k : Int} {w : World} (h : w.cell? ⟨nb, 0, none⟩ = some (.int .i64 k)) (hk : V999 k) : OfOk w (.func (.func 75) #[] #[.pointer (some ⟨nb, 0, none⟩)]) fun _ => k :=
  ⟨_, _, rfl, enters_of Tryz.func75 (by kernel_rfl) rfl, fun _ => hk, fun W e s => v_only s nb k W (e.cell_some h id)⟩

/-- Two expressions in a new row. -/
theorem two_row {w' : World} {g : Nat} {T : TypeId} {op n : Int} {s : ByteArray} {a : F} {p : Option Addr} {c : Nat} {fa : List Nat} {op' n' : Int} {s' : ByteArray} {a' : F} {p' : Option Addr} {c' : Nat} {fa' : List Nat} (hg : w'.heap[g]? = some (.cells #[.int .i64 op, .int .i64 n, .string s, .slice p a.len c, .int .i64 op', .int .i64 n', .string s', .slice p' a'.len c'] T (0, 0))) (h : RdP w' a p fa) (hl : a.len ≤ c) (hc : c ≤ 9223372036854775807) (h' : RdP w' a' p' fa') (hl' : a'.len ≤ c') (hc' : c' ≤ 9223372036854775807) :
    ∃ f, RdP w' (.cons op n s a (.cons op' n' s' a' .nil)) (some ⟨g, 0, none⟩) f := by
  refine ⟨g :: (fa ++ (fa' ++ [])), .inr ⟨g, 0, [.int .i64 op, .int .i64 n, .string s, .slice p a.len c, .int .i64 op', .int .i64 n', .string s', .slice p' a'.len c'], fa ++ (fa' ++ []), rfl, rfl, by simp [F.len], fun i v hv => ?_, fun k => by simp [World.frozen?, hg], ?_⟩⟩
  · rw [Nat.zero_add, cell_of_row _ _ _ _ _ _ hg]
    have : (#[Value.int .i64 op, .int .i64 n, .string s, .slice p a.len c, .int .i64 op', .int .i64 n', .string s', .slice p' a'.len c'] : Array Value)[i]? = some v := by simpa using hv
    exact this
  · exact ⟨p, c, fa, fa' ++ [], _, rfl, rfl, hl, hc, ⟨p', c', fa', [], [], rfl, rfl, hl', hc', ⟨rfl, rfl⟩, h'⟩, h⟩

set_option maxRecDepth 100000 in
set_option maxHeartbeats 4000000 in
theorem v_Differ (op n : Int) (s : ByteArray) (a : F) (p : Option Addr) (c : Nat) (fa : List Nat) (bo bn : Int) (bs : ByteArray) (ba : F) (bp : Option Addr) (bc : Nat) (bf : List Nat) (w : World) (hsa : a.size ≤ 400) (hsb : ba.size ≤ 400) (h1 : RdP w a p fa) (h2 : a.len ≤ c) (h3 : c ≤ 9223372036854775807) (h4 : (F.cons op n s a .nil).Fits) (g1 : RdP w ba bp bf) (g2 : ba.len ≤ bc) (g3 : bc ≤ 9223372036854775807) (g4 : (F.cons bo bn bs ba .nil).Fits) :
    Calls Tryz.prog 26 #[.agg #[.int .i64 op, .int .i64 n, .string s, .slice p a.len c], .agg #[.int .i64 bo, .int .i64 bn, .string bs, .slice bp ba.len bc]] w fun e w' => e = .returned (.tuple #[.int .i64 (difAns op n s a bo bn bs ba).1, .bool (difAns op n s a bo bn bs ba).2.1, .int .i64 (difAns op n s a bo bn bs ba).2.2]) ∧ Below w.heap.size w w' := by
  have hmf : ∀ (fn : Fn) (first cap : Array Value) (w : World), (Instr.makeFunc fn first cap).run Tryz.prog w = .ok (.func fn first cap) w := fun _ _ _ _ => rfl
  obtain ⟨wz, hwz⟩ : ∃ wz, (w.alloc (.cells #[.int .i64 op, .int .i64 n, .string s, .slice p a.len c] 28)).alloc (.cells #[.int .i64 bo, .int .i64 bn, .string bs, .slice bp ba.len bc] 28) = wz := ⟨_, rfl⟩
  have E : ∀ (v : World) (o : Obj), Ext (fun _ => False) v (v.alloc o) := fun v o => (Ext.refl v).alloc o
  have k1 := heap_new w (.cells #[.int .i64 op, .int .i64 n, .string s, .slice p a.len c] 28)
  have k2 := heap_new (w.alloc (.cells #[.int .i64 op, .int .i64 n, .string s, .slice p a.len c] 28)) (.cells #[.int .i64 bo, .int .i64 bn, .string bs, .slice bp ba.len bc] 28)
  rw [show (w.alloc (.cells #[.int .i64 op, .int .i64 n, .string s, .slice p a.len c] 28)).heap.size = w.heap.size + 1 by simp] at k2
  have HA := hid ((E _ (.cells #[.int .i64 bo, .int .i64 bn, .string bs, .slice bp ba.len bc] 28)).heap k1 id)
  have HY := hid k2
  have EZ := hid ((E w (.cells #[.int .i64 op, .int .i64 n, .string s, .slice p a.len c] 28)).trans (E _ (.cells #[.int .i64 bo, .int .i64 bn, .string bs, .slice bp ba.len bc] 28)))
  rw [hwz] at HA HY EZ
  have hzz : wz.heap.size = w.heap.size + 2 := by rw [← hwz]; simp
  have HX := hid (And.intro (h1.ext EZ.out (fun _ _ => id)) (And.intro (g1.ext EZ.out (fun _ _ => id)) (And.intro h4 g4)))
  have HBZ := hid (show Below w.heap.size w wz from EZ.out.below (Below.refl _ _) (fun _ _ => id))
  obtain ⟨⟨x0, x1, x2, x3⟩, _⟩ := blk4 HA.out
  obtain ⟨⟨y0, y1, y2, y3⟩, _⟩ := blk4 HY.out
  clear k1 k2 E h1 h4 g1 g4
  go_enter Tryz.func26, Tryz.ntmps26
  go_wp2_with fail
  refine (v_checkBoth op n s a p c fa bo bn bs ba bp bc bf _ HX.out.1 h2 h3 HX.out.2.2.1 HX.out.2.1 g2 g3 HX.out.2.2.2).mono ?_
  rintro e w3 ⟨rfl, hb3⟩
  have E3 := hid (Ext.of_below (S := fun _ => False) hb3)
  have HB3 := hid (below_ext HBZ.out E3.out (by omega))
  have hz3 : w.heap.size + 2 ≤ w3.heap.size := by have := E3.out.size; omega
  clear hb3 hwz x0 x1 x2 x3 y0 y1 y2 y3
  obtain ⟨⟨x0, x1, x2, x3⟩, _⟩ := blk4 (E3.out.heap HA.out id)
  obtain ⟨⟨y0, y1, y2, y3⟩, _⟩ := blk4 (E3.out.heap HY.out id)
  generalize hge : bothE (errE op n s a 1) (errE bo bn bs ba 1) = er
  have GE := hid hge
  clear hge
  by_cases he : er = 0
  case neg =>
    have hne : (er != 0) = true := by simpa using he
    have HO := hid (show difAns op n s a bo bn bs ba = (0, false, er) by unfold difAns; rw [if_pos (by rw [GE.out]; exact he), GE.out])
    clear he
    go_wp2_with fail
    exact bodyPost_ret (v := .tuple #[.int .i64 0, .bool false, .int .i64 er]) (by simp [results, Tryz.results26, go_sem]) rfl ⟨by rw [HO.out], HB3.out⟩
  subst he
  have HSm := hid (show (F.cons op n s a .nil).Small ∧ (F.cons bo bn bs ba .nil).Small by
    have h := GE.out
    unfold bothE at h
    split at h
    · rename_i h'; exact absurd h h'
    · rename_i h'
      exact ⟨small_of_errE (Classical.not_not.1 h'), small_of_errE h⟩)
  have HX3 := hid (And.intro (HX.out.1.ext E3.out (fun _ _ => id)) (HX.out.2.1.ext E3.out (fun _ _ => id)))
  have ER := hid ((Ext.refl (S := fun _ => False) w3).alloc (.cells #[.int .i64 op, .int .i64 n, .string s, .slice p a.len c, .int .i64 bo, .int .i64 bn, .string bs, .slice bp ba.len bc] 28))
  have HV := hid (show Calls Tryz.prog 59 #[.slice (some ⟨w3.heap.size, 0, none⟩) 2 2] (w3.alloc (.cells #[.int .i64 op, .int .i64 n, .string s, .slice p a.len c, .int .i64 bo, .int .i64 bn, .string bs, .slice bp ba.len bc] 28)) (GotStrs (vsOf (.cons op n s a (.cons bo bn bs ba .nil))) (w3.alloc (.cells #[.int .i64 op, .int .i64 n, .string s, .slice p a.len c, .int .i64 bo, .int .i64 bn, .string bs, .slice bp ba.len bc] 28))) by
    obtain ⟨f, hf⟩ := two_row (heap_new w3 (.cells #[.int .i64 op, .int .i64 n, .string s, .slice p a.len c, .int .i64 bo, .int .i64 bn, .string bs, .slice bp ba.len bc] 28)) (HX3.out.1.ext ER.out (fun _ _ => id)) h2 h3 (HX3.out.2.ext ER.out (fun _ _ => id)) g2 g3
    have h := v_variables (.cons op n s a (.cons bo bn bs ba .nil)) (some ⟨w3.heap.size, 0, none⟩) 2 f _ (by simp only [F.size]; omega) hf (by simp [F.len]) (by omega) ⟨HSm.out.1.1, HSm.out.1.2.1, HSm.out.2⟩
    rw [show (F.cons op n s a (.cons bo bn bs ba .nil)).len = 2 from rfl] at h
    exact h)
  have HO := hid (show difAns op n s a bo bn bs ba = if 1 < (vsOf (.cons op n s a (.cons bo bn bs ba .nil))).length then (0, false, 2) else difV (firstN (apart op n s a bo bn bs ba) 1000 0) by unfold difAns; rw [if_neg (by rw [GE.out]; simp)])
  generalize vsOf (.cons op n s a (.cons bo bn bs ba .nil)) = vs at HV HO
  go_wp2_with fail
  refine HV.out.mono ?_
  rintro e w4 ⟨⟨q, cq, rfl, _, hv1, hv2, _⟩, hb4⟩
  have E4 := hid (E3.out.trans (ER.out.trans (Ext.of_below (S := fun _ => False) hb4)))
  have HB4 := hid (below_ext HBZ.out E4.out (by omega))
  have hz4 : w.heap.size + 2 ≤ w4.heap.size := by have := E4.out.size; omega
  have hvI : (vs.length : Int) ≤ 9223372036854775807 := by unfold maxLen at hv2; omega
  clear hb4 hv1 hv2 x0 x1 x2 x3 y0 y1 y2 y3 HV ER HX3
  obtain ⟨⟨x0, x1, x2, x3⟩, _⟩ := blk4 (E4.out.heap HA.out id)
  obtain ⟨⟨y0, y1, y2, y3⟩, _⟩ := blk4 (E4.out.heap HY.out id)
  by_cases hvs : 1 < vs.length
  · have hd : decide ((1 : Int) < (vs.length : Int)) = true := by simp; omega
    have HO2 := hid (show difAns op n s a bo bn bs ba = (0, false, 2) by rw [HO.out, if_pos hvs])
    clear hvs
    go_wp2_with fail
    exact bodyPost_ret (v := .tuple #[.int .i64 0, .bool false, .int .i64 2]) (by simp [results, Tryz.results26, go_sem]) rfl ⟨by rw [HO2.out], HB4.out⟩
  have hd : decide ((1 : Int) < (vs.length : Int)) = false := by simp; omega
  have HO2 := hid (show difAns op n s a bo bn bs ba = difV (firstN (apart op n s a bo bn bs ba) 1000 0) by rw [HO.out, if_neg hvs])
  have HKeep := hid (show ∀ w', Ext (fun _ => False) wz w' → w'.cell? ⟨w.heap.size, 0, none⟩ = some (.int .i64 op) ∧ w'.cell? ⟨w.heap.size, 1, none⟩ = some (.int .i64 n) ∧ w'.cell? ⟨w.heap.size, 2, none⟩ = some (.string s) ∧ w'.cell? ⟨w.heap.size, 3, none⟩ = some (.slice p a.len c) ∧ w'.cell? ⟨w.heap.size + 1, 0, none⟩ = some (.int .i64 bo) ∧ w'.cell? ⟨w.heap.size + 1, 1, none⟩ = some (.int .i64 bn) ∧ w'.cell? ⟨w.heap.size + 1, 2, none⟩ = some (.string bs) ∧ w'.cell? ⟨w.heap.size + 1, 3, none⟩ = some (.slice bp ba.len bc) from fun w' e => by
      obtain ⟨⟨x0, x1, x2, x3⟩, _⟩ := blk4 (e.heap HA.out id)
      obtain ⟨⟨y0, y1, y2, y3⟩, _⟩ := blk4 (e.heap HY.out id)
      exact ⟨x0, x1, x2, x3, y0, y1, y2, y3⟩)
  have HC1 := hid (v_compile (a.size + 1) op n s a p c fa w4.drew (by omega) (HX.out.1.ext E4.out.drew (fun _ _ => id)) h2 h3 HX.out.2.2.1 HSm.out.1)
  have HC2 := hid (fun w' (e : Ext (fun _ => False) wz w') => v_compile (ba.size + 1) bo bn bs ba bp bc bf w' (by omega) (HX.out.2.1.ext e (fun _ _ => id)) g2 g3 HX.out.2.2.2 HSm.out.2)
  clear hvs
  go_wp2_with fail
  go_region_held3 (fun w' => w'.cell? ⟨w.heap.size, 0, none⟩ = some (.int .i64 op) ∧ w'.cell? ⟨w.heap.size, 1, none⟩ = some (.int .i64 n) ∧ w'.cell? ⟨w.heap.size, 2, none⟩ = some (.string s) ∧ w'.cell? ⟨w.heap.size, 3, none⟩ = some (.slice p a.len c) ∧ w'.cell? ⟨w.heap.size + 1, 0, none⟩ = some (.int .i64 bo) ∧ w'.cell? ⟨w.heap.size + 1, 1, none⟩ = some (.int .i64 bn) ∧ w'.cell? ⟨w.heap.size + 1, 2, none⟩ = some (.string bs) ∧ w'.cell? ⟨w.heap.size + 1, 3, none⟩ = some (.slice bp ba.len bc))
      (first
        | (with_reducible exact HKeep.out _ E7.out)
        | (with_reducible exact HKeep.out _ E5.out)
        | (with_reducible exact HKeep.out _ E4.out.drew)
        | (go_keep; done))
      (first
        | (go_at_call 57; (with_reducible refine HC1.out.mono ?_); rintro e w5 ⟨⟨v5, rfl, hm5⟩, hb5⟩; have E5 := hid (E4.out.drew.trans (Ext.of_below (S := fun _ => False) hb5)); have HM5 := hid hm5; clear hb5 hm5)
        | (go_at_call 57; (with_reducible refine (HC2.out _ E5.out).mono ?_); rintro e w7 ⟨⟨v7, rfl, hm7⟩, hb7⟩; have F7 := hid (Ext.of_below (S := fun _ => False) hb7); have E7 := hid (E5.out.trans F7.out); have HM7 := hid hm7; clear hb7 hm7))
  have HB7 := hid (below_ext HBZ.out E7.out (by omega))
  have HMa := hid (HM5.out.ext F7.out)
  obtain ⟨ka, ca, rfl, hka, hca⟩ := HMa.out
  obtain ⟨kb, cb, rfl, hkb, hcb⟩ := HM7.out
  unfold Enters at hka hkb
  have HCa := hid hca
  have HCb := hid hcb
  have hz7 : w.heap.size ≤ w7.heap.size := HB7.out.size
  clear hca hcb x0 x1 x2 x3 y0 y1 y2 y3 HKeep HC1 HC2 HMa HM5 HM7 hd
  go_wp2_with fail
  go_loopw [28] (fun i wr => ∃ k : Nat, k ≤ 1000 ∧ i = .int .i64 k ∧ firstN (apart op n s a bo bn bs ba) 1000 0 = firstN (apart op n s a bo bn bs ba) (1000 - k) k ∧ Ext (fun _ => False) w7 wr) (fun i _ => 1000 - (intOf i).toNat)
  case atStart => exact ⟨0, by omega, rfl, rfl, Ext.refl _⟩
  case round =>
    obtain ⟨k, hk, rfl, hf, her⟩ := hrel
    have HF := hid hf
    have Er := hid her
    clear hf her
    by_cases hlt : k < 1000
    · have ER1 := hid (Er.out.alloc (.cells #[.int .i64 k] 3))
      have hcell : (wr.alloc (.cells #[.int .i64 k] 3)).cell? ⟨wr.heap.size, 0, none⟩ = some (.int .i64 k) := by rw [cell_of_row _ _ _ _ _ _ (heap_new wr (.cells #[.int .i64 k] 3))]; rfl
      have HOn := hid (only_ok hcell ⟨by omega, by omega⟩)
      have HCell := hid hcell
      have H1 := hid (HCa.out _ _ _ (.of_ext ER1.out) HOn.out).2
      have HAp := hid (show apart op n s a bo bn bs ba k = (valEG (fun _ => (k : Int)) op n s a != valEG (fun _ => (k : Int)) bo bn bs ba) from rfl)
      have HCb2 := hid (fun W (e : Ext (fun _ => False) w7 W) ho => (HCb.out (.func (.func 75) #[] #[.pointer (some ⟨wr.heap.size, 0, none⟩)]) (fun _ => (k : Int)) W (.of_ext e) ho).2)
      generalize valEG (fun _ => (k : Int)) op n s a = va at H1 HAp
      generalize valEG (fun _ => (k : Int)) bo bn bs ba = vb at HCb2 HAp
      clear hcell
      go_wp2_with fail
      refine H1.out.mono ?_
      rintro e w9 ⟨rfl, hb9⟩
      have F9 := hid (Ext.of_below (S := fun _ => False) hb9)
      have E9 := hid (ER1.out.trans F9.out)
      have HOn9 := hid (HOn.out.ext F9.out)
      clear hb9
      go_wp2_with fail
      refine (HCb2.out _ E9.out HOn9.out).mono ?_
      rintro e w10 ⟨rfl, hb10⟩
      have F10 := hid (F9.out.trans (Ext.of_below (S := fun _ => False) hb10))
      have E10 := hid (ER1.out.trans F10.out)
      have HB10 := hid (below_ext HB7.out E10.out hz7)
      have c10 := F10.out.cell_some HCell.out id
      have hN : firstN (apart op n s a bo bn bs ba) (1000 - k) k = if apart op n s a bo bn bs ba k = true then some k else firstN (apart op n s a bo bn bs ba) (1000 - (k + 1)) (k + 1) := by
        rw [show 1000 - k = (1000 - (k + 1)) + 1 by omega]; rfl
      have HN := hid hN
      clear hb10 hN
      cases hab : (va != vb) with
      | true =>
        have HO3 := hid (show difAns op n s a bo bn bs ba = ((k : Int), true, 0) by rw [HO2.out, HF.out, HN.out, HAp.out, hab, if_pos rfl]; rfl)
        go_wp2_with fail
        exact bodyPost_ret (v := .tuple #[.int .i64 k, .bool true, .int .i64 0]) (by simp [results, Tryz.results26, go_sem]) rfl ⟨by rw [HO3.out], HB10.out⟩
      | false =>
        have HF2 := hid (show firstN (apart op n s a bo bn bs ba) 1000 0 = firstN (apart op n s a bo bn bs ba) (1000 - (k + 1)) (k + 1) by rw [HF.out, HN.out, HAp.out, hab, if_neg (by simp)])
        go_wp2_with fail
        go_roundw
        case rel => exact ⟨k + 1, by omega, by go_num, HF2.out, E10.out⟩
        case measure => simp [intOf]; omega
    · have hk2 : k = 1000 := by omega
      subst hk2
      have HO3 := hid (show difAns op n s a bo bn bs ba = (0, false, 0) by rw [HO2.out, HF.out]; rfl)
      have HBr := hid (below_ext HB7.out Er.out hz7)
      go_wp2_with fail
      exact bodyPost_ret (v := .tuple #[.int .i64 0, .bool false, .int .i64 0]) (by simp [results, Tryz.results26, go_sem]) rfl ⟨by rw [HO3.out], HBr.out⟩
end Go.Proofs.YtkgciohebloffaaGreat
/- isN, num, not, first, the reference's. -/
namespace Go.Proofs.YtkgciohebloffaaGreat
open Go.RowKit

set_option maxHeartbeats 1000000 in
theorem r_isN (op n : Int) (s : ByteArray) (q : Option Addr) (l c : Nat) (v : Int) (w : World) :
    Calls Tryz.prog 128 #[.agg #[.int .i64 op, .int .i64 n, .string s, .slice q l c], .int .i64 v] w fun e w' => e = .returned (.bool (op == 1 && n == v)) ∧ Below w.heap.size w w' := by
  by_cases h1 : (op == 1) = true
  · by_cases h2 : (n == v) = true
    · have HE := hid (show (op == 1 && n == v) = true by simp only [h1, h2, Bool.and_true])
      go_enter Tryz.func128, Tryz.ntmps128
      go_wp2
      go_ret
      exact ⟨ret_bool HE.out.symm, alloc_below _ _⟩
    · have h3 : (n == v) = false := by simpa using h2
      have HE := hid (show (op == 1 && n == v) = false by simp only [h3, Bool.and_false])
      clear h2
      go_enter Tryz.func128, Tryz.ntmps128
      go_wp2
      go_ret
      exact ⟨ret_bool HE.out.symm, alloc_below _ _⟩
  · have h3 : (op == 1) = false := by simpa using h1
    have HE := hid (show (op == 1 && n == v) = false by simp only [h3, Bool.false_and])
    clear h1
    go_enter Tryz.func128, Tryz.ntmps128
    go_wp2
    go_ret
    exact ⟨ret_bool HE.out.symm, alloc_below _ _⟩

set_option maxHeartbeats 1000000 in
theorem r_num (n : Int) (w : World) : Calls Tryz.prog 126 #[.int .i64 n] w fun e w' => e = .returned (.agg #[.int .i64 1, .int .i64 n, .string ⟨#[]⟩, .slice none 0 0]) ∧ Below w.heap.size w w' := by
  have HZ := hid (heap_new w (.cells #[.int .i64 0, .int .i64 0, .string ⟨#[]⟩, .slice none 0 0] 28))
  obtain ⟨⟨z0, z1, z2, z3⟩, f0, f1, f2, f3⟩ := blk4 HZ.out
  go_enter Tryz.func126, Tryz.ntmps126
  go_wp2_with fail
  exact bodyPost_ret (v := .agg #[.int .i64 1, .int .i64 n, .string ⟨#[]⟩, .slice none 0 0]) (by simp [results, Tryz.results126, go_sem]) rfl ⟨rfl, alloc_below _ _⟩

set_option maxHeartbeats 1000000 in
theorem r_not (op n : Int) (s : ByteArray) (q : Option Addr) (l c : Nat) (w : World) :
    Calls Tryz.prog 133 #[.agg #[.int .i64 op, .int .i64 n, .string s, .slice q l c]] w fun e w' => e = .returned (.agg #[.int .i64 8, .int .i64 0, .string ⟨#[]⟩, .slice (some ⟨w.heap.size + 2, 0, none⟩) 1 1]) ∧ w'.heap[w.heap.size + 2]? = some (.cells #[.int .i64 op, .int .i64 n, .string s, .slice q l c] 28 (0, 0)) ∧ Below w.heap.size w w' := by
  go_enter Tryz.func133, Tryz.ntmps133
  go_wp2_with fail
  refine bodyPost_ret (v := .agg #[.int .i64 8, .int .i64 0, .string ⟨#[]⟩, .slice (some ⟨w.heap.size + 2, 0, none⟩) 1 1]) (by simp [results, Tryz.results133, go_sem]) rfl ⟨rfl, ?_, ?_⟩
  · have h := heap_new ((w.alloc (.cells #[.int .i64 op, .int .i64 n, .string s, .slice q l c] 28)).alloc (.cells #[.int .i64 8, .int .i64 0, .string ⟨#[]⟩, .slice (some ⟨w.heap.size + 2, 0, none⟩) 1 1] 28)) (.cells #[.int .i64 op, .int .i64 n, .string s, .slice q l c] 28)
    simpa using h
  · exact ((alloc_below w _).alloc (by simp) _).alloc (by simp; omega) _

/-- Whether a number is among others. -/
def amg (l : List Int) (x : Int) : Bool := match l with | [] => false | y :: r => x == y || amg r x
theorem amg_drop (l : List Int) (x : Int) (k : Nat) (y : Int) (h : l[k]? = some y) (hn : (x == y) = false) : amg (l.drop k) x = amg (l.drop (k + 1)) x := by
  have hk : k < l.length := (List.getElem?_eq_some_iff.1 h).1
  have hd : l.drop k = y :: l.drop (k + 1) := by
    rw [List.drop_eq_getElem_cons hk]; congr 1; exact (List.getElem?_eq_some_iff.1 h).2
  rw [hd]; simp only [amg, hn, Bool.false_or]

set_option maxHeartbeats 1000000 in
theorem r_index_ints (l : List Int) (g o c : Nat) (x : Int) (w : World) (hat : IntsAt w g o l) (hl : l.length ≤ 10) :
    Calls Tryz.prog 187 #[.slice (some ⟨g, o, none⟩) l.length c, .int .i64 x] w fun e w' => (∃ i : Int, e = .returned (.int .i64 i) ∧ decide (i ≥ 0) = amg l x) ∧ w = w' := by
  have HA := hid hat
  have hlI : (l.length : Int) ≤ 10 := by omega
  clear hat
  go_enter Tryz.func187, Tryz.ntmps187
  go_wp2_with fail
  go_loopw [8] (fun i wr => ∃ k : Nat, k ≤ l.length ∧ i = .int .i64 k ∧ amg l x = amg (l.drop k) x ∧ wr = w) (fun i _ => l.length - (intOf i).toNat)
  case atStart => exact ⟨0, by omega, rfl, rfl, rfl⟩
  case round =>
    obtain ⟨k, hk, rfl, hj, rfl⟩ := hrel
    have HJ := hid hj
    clear hj
    by_cases hlt : k < l.length
    · obtain ⟨y, hy⟩ : ∃ y, l[k]? = some y := ⟨l[k], by simp [hlt]⟩
      have y0 := HA.out k y hy
      have HY := hid hy
      clear hy
      by_cases hxy : (x == y) = true
      · have HT := hid (show amg l x = true by
          have hk2 : k < l.length := hlt
          have hd : l.drop k = y :: l.drop (k + 1) := by rw [List.drop_eq_getElem_cons hk2]; congr 1; exact (List.getElem?_eq_some_iff.1 HY.out).2
          rw [HJ.out, hd]; simp only [amg, hxy, Bool.true_or])
        go_wp2_with fail
        go_ret
        exact ⟨⟨(k : Int), rfl, by rw [HT.out]; simp⟩, rfl⟩
      · have hxy2 : (x == y) = false := by simpa using hxy
        clear hxy
        have HN := hid (show amg l x = amg (l.drop (k + 1)) x by rw [HJ.out, amg_drop l x k y HY.out hxy2])
        go_wp2_with fail
        go_roundw
        case rel => exact ⟨k + 1, by omega, by go_num, HN.out, by trivial⟩
        case measure => simp [intOf]; omega
    · have HT := hid (show amg l x = false by rw [HJ.out, List.drop_eq_nil_of_le (by omega)]; rfl)
      go_wp2_with fail
      go_ret
      exact ⟨⟨-1, rfl, by rw [HT.out]; rfl⟩, rfl⟩
set_option maxHeartbeats 1000000 in
theorem r_first (op : Int) (q : Option Addr) (k c : Nat) (l : List Int) (g o cc : Nat) (w : World) (hat : IntsAt w g o l) (hl : l.length ≤ 10) :
    Calls Tryz.prog 123 #[.int .i64 op, .slice q k c, .slice (some ⟨g, o, none⟩) l.length cc] w fun e w' => e = .returned (.bool (amg l op)) ∧ w = w' := by
  have hC : Calls Tryz.prog 124 #[.slice (some ⟨g, o, none⟩) l.length cc, .int .i64 op] w fun e w' => e = .returned (.bool (amg l op)) ∧ w = w' := by
    go_enter Tryz.func124, Tryz.ntmps124
    go_wp2_with fail
    refine (r_index_ints l g o cc op _ hat hl).mono ?_
    rintro e w2 ⟨⟨i, rfl, hi⟩, rfl⟩
    have HI := hid hi
    clear hi
    go_wp2_with fail
    go_ret
    exact ⟨ret_bool HI.out, rfl⟩
  go_enter Tryz.func123, Tryz.ntmps123
  go_wp2_with fail
  refine hC.mono ?_
  rintro e w2 ⟨rfl, rfl⟩
  go_wp2_with fail
  go_ret
  exact ⟨rfl, rfl⟩
theorem ints_two {w : World} {g : Nat} {x y : Int} {T : TypeId} (h : w.heap[g]? = some (.cells #[.int .i64 x, .int .i64 y] T (0, 0))) : IntsAt w g 0 [x, y] := by
  intro i v hv
  match i, hv with
  | 0, hv => simp at hv; subst hv; rw [cell_of_row _ _ _ _ _ _ h]; rfl
  | 1, hv => simp at hv; subst hv; rw [cell_of_row _ _ _ _ _ _ h]; rfl
  | i + 2, hv => simp at hv
theorem ints_three {w : World} {g : Nat} {x y z : Int} {T : TypeId} (h : w.heap[g]? = some (.cells #[.int .i64 x, .int .i64 y, .int .i64 z] T (0, 0))) : IntsAt w g 0 [x, y, z] := by
  intro i v hv
  match i, hv with
  | 0, hv => simp at hv; subst hv; rw [cell_of_row _ _ _ _ _ _ h]; rfl
  | 1, hv => simp at hv; subst hv; rw [cell_of_row _ _ _ _ _ _ h]; rfl
  | 2, hv => simp at hv; subst hv; rw [cell_of_row _ _ _ _ _ _ h]; rfl
  | i + 3, hv => simp at hv
end Go.Proofs.YtkgciohebloffaaGreat
