/-
  Chapter 1: the contract of the model's l1Split.
-/
import Derived.Test.YtmkejopkmdcfeabDoorParse
import Derived.OwnWalk
namespace Go.Proofs.YtmkejopkmdcfeabDoor
open Go.RowKit Rm

/-- The parts of a text between the bytes b; cur: the part that is being read. -/
def sp (b : UInt8) (cur : List UInt8) : List UInt8 → List (List UInt8)
  | [] => [cur]
  | c :: r => if c = b then cur :: sp b [] r else sp b (cur ++ [c]) r
def strV (l : List UInt8) : Value := .string ⟨l.toArray⟩
theorem infoS : (Tryd.prog.info? 9).map (fun i => (i.zero, i.size, i.bytes)) = some (some (.string ⟨#[]⟩), 1, 16) := by kernel_rfl

/-- What is left of the text from part's start f on, when k bytes have been read. -/
theorem seg_step (l : List UInt8) (f k : Nat) (hf : f ≤ k) (h : k < l.length) : (l.take (k + 1)).drop f = (l.take k).drop f ++ [l[k]] := by
  rw [List.take_succ_eq_append_getElem h, List.drop_append_of_le_length (by simp; omega)]
theorem drop_cons' (l : List UInt8) (k : Nat) (h : k < l.length) : l.drop k = l[k] :: l.drop (k + 1) := List.drop_eq_getElem_cons h

theorem strV_extract (s : ByteArray) (f k : Nat) : Value.string (s.extract f k) = strV ((s.data.toList.take k).drop f) := by
  unfold strV
  congr 1
  have h := Lib.extract_data s f k
  have e : (s.data.toList.take k).drop f = (s.data.toList.drop f).take (k - f) := by rw [List.drop_take]
  rw [e, ← h]
theorem own_base {w : World} {base : Nat} {e : TypeId} {size n : Nat} {v : Value} {xs : List Value} (h : w.ownsRow base e size v n xs) : ∀ g, v.ownBlock = some g → base ≤ g := by
  intro g hg
  rcases h.2 with ⟨rfl, _⟩ | ⟨g', cap, cur, rfl, hb, _⟩
  · simp [Value.ownBlock] at hg
  · simp [Value.ownBlock] at hg; omega
theorem one_new (w : World) (v : Value) (t : TypeId) : ∀ (j : Nat) (u : Value), [v][j]? = some u → (w.alloc (.cells #[v] t)).cell? ((⟨w.heap.size, 0, none⟩ : Addr).add j) = some u := by
  intro j u h
  cases j with
  | zero => simp at h; subst h; simp [Addr.add, go_sem]
  | succ j => simp at h
/-- What one append of a part does. -/
theorem part_added {W wr w' : World} {E : TypeId} {u v' : Value} {segs : List (List UInt8)} {x : List UInt8} {o : Obj} (hb : Below W.heap.size W wr) (hown : wr.ownsRow W.heap.size E 1 u segs.length (segs.map strV))
    (h : w'.ownsRow W.heap.size E 1 v' (segs.length + 1) (segs.map strV ++ [strV x])) (hg : (wr.alloc o).grownBy w' u.ownBlock) :
    w'.ownsRow W.heap.size E 1 v' (segs ++ [x]).length ((segs ++ [x]).map strV) ∧ Below W.heap.size W w' :=
  ⟨by simpa using h, (hb.alloc hb.size o).grown hg (by have := hb.size; simp; omega) (own_base hown)⟩

set_option maxRecDepth 100000 in
set_option maxHeartbeats 1000000 in
theorem l1Split_any (s : ByteArray) (b : UInt8) (w : World) (hs : s.size ≤ 1048576) :
    Calls Tryd.prog 13 #[.string s, .int .u8 b.toNat] w fun e w' => ∃ v, e = .returned v ∧ w'.ownsRow w.heap.size 9 1 v (sp b [] s.data.toList).length ((sp b [] s.data.toList).map strV) ∧ Below w.heap.size w w' := by
  obtain ⟨i0, hi, hz0, hz1, hz2⟩ := info_parts infoS
  have hlen : s.data.toList.length = s.size := by simp
  have HL := Lib.hid hlen; clear hlen
  go_enter Tryd.func13, Tryd.ntmps13
  go_wp2_with fail
  go_loopw [5, 6, 7] (fun o f i wr => ∃ (k fr : Nat) (segs : List (List UInt8)), i = .int .i64 k ∧ f = .int .i64 fr ∧ k ≤ s.size ∧ fr ≤ k ∧ segs.length ≤ k ∧ wr.ownsRow w.heap.size 9 1 o segs.length (segs.map strV) ∧ Below w.heap.size w wr ∧
      segs ++ sp b ((s.data.toList.take k).drop fr) (s.data.toList.drop k) = sp b [] s.data.toList) (fun _ _ i _ => s.size - (intOf i).toNat)
  case atStart => exact ⟨0, 0, [], rfl, rfl, by omega, by omega, by simp, World.ownsRow_nil _ _ _ _, Below.refl _ _, by simp⟩
  case round =>
    obtain ⟨k, fr, segs, rfl, rfl, hk, hf, hsl, hown, hb, hsp⟩ := hrel
    have HSP := Lib.hid hsp; clear hsp
    have hz := hb.size
    by_cases hlt : k < s.size
    · by_cases hc : ((s[k]'hlt).toNat : Int) = (b.toNat : Int)
      · have hcb : (((s[k]'hlt).toNat : Int) == (b.toNat : Int)) = true := by simpa using hc
        have hcc : (s[k]'hlt) = b := UInt8.toNat_inj.1 (by omega)
        have hnew : segs ++ [(s.data.toList.take k).drop fr] ++ sp b ((s.data.toList.take (k + 1)).drop (k + 1)) (s.data.toList.drop (k + 1)) = sp b [] s.data.toList := by
          have e := HSP.out
          rw [drop_cons s k hlt, sp, if_pos hcc] at e
          have hnil : (s.data.toList.take (k + 1)).drop (k + 1) = [] := List.drop_eq_nil_of_le (by simp; omega)
          rw [hnil]
          simpa using e
        have HN := Lib.hid hnew
        have HX := Lib.hid (strV_extract s fr k)
        clear hc hcc hnew HSP
        go_wp2_with (at_builtin; refine wpList_append_own _ rfl _ _ 37 rfl w.heap.size 9 i0 (.string ⟨#[]⟩) 1 16 Tryd.underlying37 hi hz0 hz1 hz2 rfl (by decide) _ _ _ rfl (hown.alloc _) ⟨wr.heap.size, 0, none⟩ 1 1 [.string (s.extract fr k)] rfl rfl ?c1 ?c2 ?c3 ?c4 ?c5 ?_)
        case c1 => exact one_new _ _ _
        case c2 => simp [Value.oneCell']
        case c3 => unfold maxLen; omega
        case c4 => omega
        case c5 => simp; omega
        intro v' w1 hown1 hgrow _
        rw [HX.out] at hown1
        obtain ⟨ho, hb1⟩ := part_added hb hown hown1 hgrow
        clear hown hown1 hgrow hb HX
        go_wp2
        go_roundw
        case rel => exact ⟨k + 1, k + 1, _, by go_num, by go_num, by omega, by omega, by simp; omega, ho, hb1, HN.out⟩
        case measure => simp [intOf]; omega
      · have hcb : (((s[k]'hlt).toNat : Int) == (b.toNat : Int)) = false := by simpa using hc
        have hcc : ¬ (s[k]'hlt) = b := fun e => hc (by rw [e])
        have hnew : segs ++ sp b ((s.data.toList.take (k + 1)).drop fr) (s.data.toList.drop (k + 1)) = sp b [] s.data.toList := by
          have e := HSP.out
          rw [drop_cons s k hlt, sp, if_neg hcc] at e
          rw [seg_step _ _ _ hf (by simpa using hlt)]
          exact e
        have HN := Lib.hid hnew
        clear hc hcc hnew HSP
        have HO := hide hown; clear hown
        go_wp2
        go_roundw
        case rel => exact ⟨k + 1, fr, segs, by go_num, rfl, by omega, by omega, by omega, unhide HO, hb, HN.out⟩
        case measure => simp [intOf]; omega
    · have hend : sp b [] s.data.toList = segs ++ [(s.data.toList.take s.size).drop fr] := by
        have e := HSP.out
        obtain rfl : k = s.size := by omega
        have hnil : s.data.toList.drop s.size = [] := List.drop_eq_nil_of_le (by simp)
        rw [hnil, sp] at e
        exact e.symm
      have HN := Lib.hid hend
      have HX := Lib.hid (strV_extract s fr s.size)
      clear hend HSP
      have hkk : (fr : Int) ≤ (s.size : Int) := by omega
      go_wp2_with (at_builtin; refine wpList_append_own _ rfl _ _ 37 rfl w.heap.size 9 i0 (.string ⟨#[]⟩) 1 16 Tryd.underlying37 hi hz0 hz1 hz2 rfl (by decide) _ _ _ rfl (hown.alloc _) ⟨wr.heap.size, 0, none⟩ 1 1 [.string (s.extract fr s.size)] rfl rfl ?c1 ?c2 ?c3 ?c4 ?c5 ?_)
      case c1 => exact one_new _ _ _
      case c2 => simp [Value.oneCell']
      case c3 => unfold maxLen; omega
      case c4 => omega
      case c5 => simp; omega
      intro v' w1 hown1 hgrow _
      rw [HX.out] at hown1
      obtain ⟨ho, hb1⟩ := part_added hb hown hown1 hgrow
      rw [← HN.out] at ho
      have HO := hide ho
      clear hown hown1 hgrow hb HX ho
      go_wp2
      go_ret
      exact ⟨v', rfl, unhide HO, hb1⟩
end Go.Proofs.YtmkejopkmdcfeabDoor
