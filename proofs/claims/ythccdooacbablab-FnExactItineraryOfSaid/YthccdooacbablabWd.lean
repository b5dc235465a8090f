/-
  Chapter 6: AddressOf of both.
-/
import Derived.Test.YthccdooacbablabWc
namespace Go.Proofs.Ythccdooacbablab
open Go.RowKit Rm

def adZ (ps : List Pt) (a b : Int) : Bool := lmB ps && uB a b
def adI (ps : List Pt) (a b : Int) : Int := match adZ ps a b with | true => (adQ (dec ps) (Rat.divInt a b) : Int) | false => 0
theorem adI_no {ps : List Pt} {a b : Int} (h : adZ ps a b = false) : adI ps a b = 0 := by unfold adI; simp only [h]
theorem adI_map {qs : List QP} {x : Rat} (h : adZ (qs.map qp) x.num x.den = true) : adI (qs.map qp) x.num x.den = (adQ qs x : Int) := by
  unfold adI; simp only [h, dec_qp, Rat.num_divInt_den]

end Go.Proofs.Ythccdooacbablab
