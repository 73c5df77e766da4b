/- A region that draws, walked in one order, S shown behind each loud operation (for regions whose order is dear to check). -/
import Derived.Test.YtaemnelfnopjdaaLin
namespace Go.Proofs.Ytaemnelfnopjdaa
open Go
set_option linter.unusedVariables false
section
variable {P : Program} {ops : Array Oper} {Q : Exit → Act → World → Prop} {S : World → Prop}
theorem replicate_false_getD {m j : Nat} : (Array.replicate m false).getD j false = false := by
  rcases Nat.lt_or_ge j m with h | h
  · simp [h]
  · simp [h]
theorem wp_region_lin_all {id : Nat} {a : Act} {w : World} (S : World → Prop) (order : List (Nat × Bool)) (hm : P.follows .mixedOrders = true) (hsel : Region.noSelect ops = true)
    (hlen : order.length = ops.size) (hB : linOk .any ops (fun _ => true) order (Array.replicate ops.size false) = true) (hS : S w.drew)
    (h : S w.drew → wpL P ops (NoPanic Q) S (fun _ => true) order a w.drew) : (Code.region id ops true).wp P Q a w := by
  refine wp_region_noPanic (wp_region_any hm (wpAny_of_G (S := S) (nd := fun _ => true) _ _ _ _ ?_))
  rw [← hlen]
  exact wpL_sound (N := ops.size) hsel (fun _ _ _ _ _ h => h) order _ a _ (fun i hi j hj hji => by cases hj) (fun j oj _ hl => (by rw [hlen, replicate_false_getD] at hl; cases hl)) (by rw [hlen]; exact hB) (fun _ => hS) (h hS)
end
end Go.Proofs.Ytaemnelfnopjdaa
