/-
  strings.Builder: WriteString, laid by hand (the shelf's program leaves it out), and Builder's words.
-/
import Derived.Test.YtafcdlojlfnjbaaDoorShelf
import Derived.Shelf.Strings.BuilderK
import Derived.Test.YtafcdlojlfnjbaaDoorText
import Derived.Test.YtafcdlojlfnjbaaDoorIg
namespace Go.Proofs
open Go.Shelf Go.RowKit
def Tryd.lays166_ren : Go.Shelf.Ren := ⟨fun | 166 => 15 | 240 => 26 | 276 => 41 | n => n, fun | 0 => 0 | 3 => 3 | 4 => 4 | 9 => 9 | 20 => 20 | 37 => 41 | 70 => 40 | 72 => 43 | 75 => 46 | 164 => 74 | 5 => 5 | 80 => 49 | n => n, fun | n => n⟩
theorem Tryd.lays166 : Go.Proofs.Lays.n166 Tryd.prog Tryd.lays166_ren := {
  mixed := by kernel_rfl
  f166 := Tryd.func15.trans (congrArg some (by kernel_rfl))
  f240 := Tryd.func26.trans (congrArg some (by kernel_rfl))
  f276 := Tryd.func41.trans (congrArg some (by kernel_rfl))
  t0 := Tryd.underlying0
  a0 := Tryd.isAgg0
  z0 := Tryd.sizeOf0
  v0 := Tryd.zeroValue0
  t3 := Tryd.underlying3
  a3 := Tryd.isAgg3
  z3 := Tryd.sizeOf3
  v3 := Tryd.zeroValue3
  t4 := Tryd.underlying4
  a4 := Tryd.isAgg4
  z4 := Tryd.sizeOf4
  v4 := Tryd.zeroValue4
  t9 := Tryd.underlying9
  a9 := Tryd.isAgg9
  z9 := Tryd.sizeOf9
  v9 := Tryd.zeroValue9
  t20 := Tryd.underlying20
  a20 := Tryd.isAgg20
  z20 := Tryd.sizeOf20
  v20 := Tryd.zeroValue20
  t37 := Tryd.underlying41
  a37 := Tryd.isAgg41
  z37 := Tryd.sizeOf41
  v37 := Tryd.zeroValue41
  t70 := Tryd.underlying40
  a70 := Tryd.isAgg40
  z70 := Tryd.sizeOf40
  v70 := Tryd.zeroValue40
  t72 := Tryd.underlying43
  a72 := Tryd.isAgg43
  z72 := Tryd.sizeOf43
  v72 := Tryd.zeroValue43
  t75 := Tryd.underlying46
  a75 := Tryd.isAgg46
  z75 := Tryd.sizeOf46
  v75 := Tryd.zeroValue46
  t164 := Tryd.underlying74
  a164 := Tryd.isAgg74
  z164 := Tryd.sizeOf74
  v164 := Tryd.zeroValue74 }
theorem Tryd.Builder_Extra_166 : Builder.Extra Tryd.prog Tryd.lays166_ren := {
  sizeBuilder := by kernel_rfl
  liesBuilder := by kernel_rfl
  t5 := Tryd.underlying5
  a5 := Tryd.isAgg5
  z5 := Tryd.sizeOf5
  v5 := Tryd.zeroValue5
  infoByte := by kernel_rfl
  cellsByte := by kernel_rfl
  sizeByte := by kernel_rfl
  neB5 := by decide }
theorem Tryd.Builder_WriteString (B b : Nat) (bs : List Value) (s : ByteArray) (w : World) (h : Lib.IsBuilder 43 5 B b bs w) (hlen : bs.length + s.size ≤ 140737488355328) (hBw : B ≤ w.heap.size) :
    Calls Tryd.prog 15 #[.pointer (some ⟨b, 0, none⟩), .string s] w fun e w' => e = .returned (.tuple #[.int .i64 s.size, .nilIface]) ∧ (Lib.BuilderAt 43 5 B b (.pointer (some ⟨b, 0, none⟩)) (bs ++ Lib.strCells s) w' ∧ Below B w w') := Any.Builder_WriteString Tryd.lays166 Tryd.Builder_Extra_166 B b bs s w h hlen hBw
end Go.Proofs
namespace Go.Proofs.YtafcdlojlfnjbaaDoor
open Go.RowKit Rm
theorem isb_below {T e : TypeId} {B b : Nat} {bs : List Value} {W W' : World} (h : Lib.IsBuilder T e B b bs W) (hb : Below W.heap.size W W') : Lib.IsBuilder T e B b bs W' := by
  have key : ∀ p, Lib.BuilderAt T e B b p bs W → Lib.BuilderAt T e B b p bs W' := by
    intro p h
    have hlt := h.lt
    obtain ⟨h1, v, h2, h3, h4⟩ := h
    exact ⟨h1, v, (hb.block b hlt).trans h2, own_below h3 hb, h4⟩
  exact h.imp (key _) (key _)
/-- A line of a map's text, and the text of the first k points. -/
def ptT (p : Pt) : List UInt8 := ((ratTxt p.1.1 p.1.2 ++ [32]) ++ ratTxt p.2.1 p.2.2) ++ [59]
def mpT (ps : List Pt) : Nat → List UInt8
  | 0 => []
  | k + 1 => mpT ps k ++ ptT (pAt ps k)
theorem ratTxt_len {n d : Int} (h : good n d = true) : (ratTxt n d).length ≤ 81 := by
  obtain ⟨b1, b2, a1, a2, _⟩ := good_iff.1 h
  have h1 := itoa_length (n := n) (by omega) (by omega)
  have h2 := itoa_length (n := d) (by omega) (by omega)
  unfold ratTxt
  rw [List.length_append, List.length_cons]
  omega
def Goods (ps : List Pt) (n : Nat) : Prop := ∀ k, k < n → good (pAt ps k).1.1 (pAt ps k).1.2 = true ∧ good (pAt ps k).2.1 (pAt ps k).2.2 = true
theorem mpT_len {ps : List Pt} {n : Nat} (h : Goods ps n) : ∀ k, k ≤ n → (mpT ps k).length ≤ 200 * k := by
  intro k
  induction k with
  | zero => intro _; exact Nat.le_refl _
  | succ k ih =>
    intro hk
    have := ih (by omega)
    have h1 := ratTxt_len (h k (by omega)).1
    have h2 := ratTxt_len (h k (by omega)).2
    show (mpT ps k ++ ptT (pAt ps k)).length ≤ _
    unfold ptT
    simp only [List.length_append, List.length_cons, List.length_nil]
    omega
theorem goods_map {ps : List Pt} (h : mapB ps = true) : Goods ps ps.length ∧ ps.length ≤ 12 ∧ 2 ≤ ps.length := by
  obtain ⟨qs, rfl, hg⟩ := gmap_of h
  rw [List.length_map]
  refine ⟨fun k hk => ?_, hg.hi, hg.lo⟩
  rw [pAt_map]
  obtain ⟨x0, x1, x2, x3⟩ := co_parts (hg.cx k hk)
  obtain ⟨y0, y1, y2, y3⟩ := co_parts (hg.cy k hk)
  exact ⟨(good_rat _).trans (fits_iff.2 ⟨by omega, by omega, by omega⟩), (good_rat _).trans (fits_iff.2 ⟨by omega, by omega, by omega⟩)⟩
end Go.Proofs.YtafcdlojlfnjbaaDoor
