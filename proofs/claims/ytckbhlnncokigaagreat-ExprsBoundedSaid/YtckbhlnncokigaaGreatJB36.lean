/- Texts joined: MeanOf. -/
import Derived.Test.YtckbhlnncokigaaGreatJB35
/- meaningOf: a meaning out of those of the operands. -/
namespace Go.Proofs.YtckbhlnncokigaaGreat
open Go.RowKit

/-- The value of an expression whose variables a function tells. -/
def valG (f : ByteArray → Int) : F → List Int
  | .nil => []
  | .cons op n s a r => (if op = 1 then n else if op = 2 then f s else compV op (valG f a)) :: valG f r
def valO (op n : Int) (s : ByteArray) (gs : List ((ByteArray → Int) → Int)) (f : ByteArray → Int) : Int := if op = 1 then n else if op = 2 then f s else compV op (gs.map fun g => g f)
/-- The operands' meanings, in a row from b on. -/
def MeansAt (S : Nat → Prop) (w : World) (b o : Nat) (gs : List ((ByteArray → Int) → Int)) : Prop := ∀ i g, gs[i]? = some g → ∃ v, w.cell? ⟨b, o + i, none⟩ = some v ∧ Mean S w v g
theorem MeansAt.ext {S : Nat → Prop} {w w' : World} {b o : Nat} {gs : List ((ByteArray → Int) → Int)} (h : MeansAt S w b o gs) (e : Ext (fun _ => False) w w') : MeansAt S w' b o gs := fun i g hg => by
  obtain ⟨v, h1, h2⟩ := h i g hg
  exact ⟨v, e.cell_some h1 id, h2.ext e⟩

theorem Mean.in {S : Nat → Prop} {w W : World} {v of : Value} {g : (ByteArray → Int) → Int} {f : ByteArray → Int} (h : Mean S w v g) (e : Agree S w W) (ho : OfOk W of f) : V999 (g f) := by
  obtain ⟨k, c, rfl, _, hk⟩ := h
  exact (hk of f W e ho).1
set_option maxHeartbeats 400000 in
theorem mean_number {S : Nat → Prop} {w' : World} {b : Nat} (sb : S b) {n : Int} (h : w'.cell? ⟨b, 1, none⟩ = some (.int .i64 n)) (hn : V999 n) : Mean S w' (.func (.func 153) #[] #[.pointer (some ⟨b, 0, none⟩)]) fun _ => n :=
  ⟨_, _, rfl, enters_of Tryz.func153 (by kernel_rfl) rfl, fun of _ W hW _ => ⟨hn, m_one b n of W (hW.cell h sb)⟩⟩
theorem mean_var {S : Nat → Prop} {w' : World} {b : Nat} (sb : S b) {s : ByteArray} (h : w'.cell? ⟨b, 2, none⟩ = some (.string s)) : Mean S w' (.func (.func 154) #[] #[.pointer (some ⟨b, 0, none⟩)]) fun f => f s :=
  ⟨_, _, rfl, enters_of Tryz.func154 (by kernel_rfl) rfl, fun of f W hW ho => ⟨ho.elim fun _ h => h.elim fun _ h => h.2.2.1 s, m_var b s of f W (hW.cell h sb) ho⟩⟩
theorem mean_not {S : Nat → Prop} {w' : World} {b : Nat} (sb : S b) {v : Value} {g : (ByteArray → Int) → Int} (h : w'.cell? ⟨b, 0, none⟩ = some v) (hm : Mean S w' v g) : Mean S w' (.func (.func 155) #[] #[.pointer (some ⟨b, 0, none⟩)]) fun f => compV 8 [g f] := by
  refine ⟨_, _, rfl, enters_of Tryz.func155 (by kernel_rfl) rfl, fun of f W hW ho => ⟨?_, m_not b v of g f W (hW.cell h sb) (hm.agree hW) ho⟩⟩
  exact comp_in (by intro x hx; simp at hx; subst hx; exact hm.in hW ho)
theorem mean_two3 {S : Nat → Prop} {w' : World} {b c : Nat} (sb : S b) (sc : S c) {u v : Value} {g k : (ByteArray → Int) → Int} (h1 : w'.cell? ⟨b, 0, none⟩ = some u) (h2 : w'.cell? ⟨c, 0, none⟩ = some v) (m1 : Mean S w' u g) (m2 : Mean S w' v k) : Mean S w' (.func (.func 193) #[] #[.pointer (some ⟨b, 0, none⟩), .pointer (some ⟨c, 0, none⟩)]) fun f => compV 3 [g f, k f] := by
  refine ⟨_, _, rfl, enters_of Tryz.func193 (by kernel_rfl) rfl, fun of f W hW ho => ⟨?_, m_two3 b c u v of g k f W (hW.cell h1 sb) (hW.cell h2 sc) (m1.agree hW) (m2.agree hW) ho⟩⟩
  exact comp_in (by intro x hx; simp at hx; rcases hx with rfl | rfl; exact m1.in hW ho; exact m2.in hW ho)
theorem mean_two4 {S : Nat → Prop} {w' : World} {b c : Nat} (sb : S b) (sc : S c) {u v : Value} {g k : (ByteArray → Int) → Int} (h1 : w'.cell? ⟨b, 0, none⟩ = some u) (h2 : w'.cell? ⟨c, 0, none⟩ = some v) (m1 : Mean S w' u g) (m2 : Mean S w' v k) : Mean S w' (.func (.func 194) #[] #[.pointer (some ⟨b, 0, none⟩), .pointer (some ⟨c, 0, none⟩)]) fun f => compV 4 [g f, k f] := by
  refine ⟨_, _, rfl, enters_of Tryz.func194 (by kernel_rfl) rfl, fun of f W hW ho => ⟨?_, m_two4 b c u v of g k f W (hW.cell h1 sb) (hW.cell h2 sc) (m1.agree hW) (m2.agree hW) ho⟩⟩
  exact comp_in (by intro x hx; simp at hx; rcases hx with rfl | rfl; exact m1.in hW ho; exact m2.in hW ho)
theorem mean_two5 {S : Nat → Prop} {w' : World} {b c : Nat} (sb : S b) (sc : S c) {u v : Value} {g k : (ByteArray → Int) → Int} (h1 : w'.cell? ⟨b, 0, none⟩ = some u) (h2 : w'.cell? ⟨c, 0, none⟩ = some v) (m1 : Mean S w' u g) (m2 : Mean S w' v k) : Mean S w' (.func (.func 195) #[] #[.pointer (some ⟨b, 0, none⟩), .pointer (some ⟨c, 0, none⟩)]) fun f => compV 5 [g f, k f] := by
  refine ⟨_, _, rfl, enters_of Tryz.func195 (by kernel_rfl) rfl, fun of f W hW ho => ⟨?_, m_two5 b c u v of g k f W (hW.cell h1 sb) (hW.cell h2 sc) (m1.agree hW) (m2.agree hW) ho⟩⟩
  exact comp_in (by intro x hx; simp at hx; rcases hx with rfl | rfl; exact m1.in hW ho; exact m2.in hW ho)
theorem mean_two6 {S : Nat → Prop} {w' : World} {b c : Nat} (sb : S b) (sc : S c) {u v : Value} {g k : (ByteArray → Int) → Int} (h1 : w'.cell? ⟨b, 0, none⟩ = some u) (h2 : w'.cell? ⟨c, 0, none⟩ = some v) (m1 : Mean S w' u g) (m2 : Mean S w' v k) : Mean S w' (.func (.func 196) #[] #[.pointer (some ⟨b, 0, none⟩), .pointer (some ⟨c, 0, none⟩)]) fun f => compV 6 [g f, k f] := by
  refine ⟨_, _, rfl, enters_of Tryz.func196 (by kernel_rfl) rfl, fun of f W hW ho => ⟨?_, m_two6 b c u v of g k f W (hW.cell h1 sb) (hW.cell h2 sc) (m1.agree hW) (m2.agree hW) ho⟩⟩
  exact comp_in (by intro x hx; simp at hx; rcases hx with rfl | rfl; exact m1.in hW ho; exact m2.in hW ho)
theorem mean_two7 {S : Nat → Prop} {w' : World} {b c : Nat} (sb : S b) (sc : S c) {u v : Value} {g k : (ByteArray → Int) → Int} (h1 : w'.cell? ⟨b, 0, none⟩ = some u) (h2 : w'.cell? ⟨c, 0, none⟩ = some v) (m1 : Mean S w' u g) (m2 : Mean S w' v k) : Mean S w' (.func (.func 197) #[] #[.pointer (some ⟨b, 0, none⟩), .pointer (some ⟨c, 0, none⟩)]) fun f => compV 7 [g f, k f] := by
  refine ⟨_, _, rfl, enters_of Tryz.func197 (by kernel_rfl) rfl, fun of f W hW ho => ⟨?_, m_two7 b c u v of g k f W (hW.cell h1 sb) (hW.cell h2 sc) (m1.agree hW) (m2.agree hW) ho⟩⟩
  exact comp_in (by intro x hx; simp at hx; rcases hx with rfl | rfl; exact m1.in hW ho; exact m2.in hW ho)
theorem mean_when {S : Nat → Prop} {w' : World} {b c d : Nat} (sb : S b) (sc : S c) (sd : S d) {u v t : Value} {g k l : (ByteArray → Int) → Int} (h1 : w'.cell? ⟨b, 0, none⟩ = some u) (h2 : w'.cell? ⟨c, 0, none⟩ = some v) (h3 : w'.cell? ⟨d, 0, none⟩ = some t) (m1 : Mean S w' u g) (m2 : Mean S w' v k) (m3 : Mean S w' t l) : Mean S w' (.func (.func 192) #[] #[.pointer (some ⟨b, 0, none⟩), .pointer (some ⟨c, 0, none⟩), .pointer (some ⟨d, 0, none⟩)]) fun f => compV 9 [g f, k f, l f] := by
  refine ⟨_, _, rfl, enters_of Tryz.func192 (by kernel_rfl) rfl, fun of f W hW ho => ⟨?_, m_when b c d u v t of g k l f W (hW.cell h1 sb) (hW.cell h2 sc) (hW.cell h3 sd) (m1.agree hW) (m2.agree hW) (m3.agree hW) ho⟩⟩
  exact comp_in (by intro x hx; simp at hx; rcases hx with rfl | rfl | rfl; exact m1.in hW ho; exact m2.in hW ho; exact m3.in hW ho)
end Go.Proofs.YtckbhlnncokigaaGreat
