/-
  The program's lists that are asked by closures: made of entries, the first that is so, whether there is one, those that are so.
-/
import Derived.Test.YtlbccbikepkfiaaGreatDoorIteD
import Derived.Test.YtlbccbikepkfiaaGreatDoorEntX
import Derived.Test.YtlbccbikepkfiaaGreatDoorTreL
namespace Go.Proofs.YtlbccbikepkfiaaGreatDoor
open Go.RowKit Go.Maps
set_option linter.unusedVariables false
attribute [local go_sem ↓] Go.wp_at_zero Go.wp_at_succ


/-- A closure that answers f, in worlds that came of W0. -/
def Asks (W0 : World) (fn : FuncId) (cap : Array Value) (f : En → Bool) : Prop :=
  (∀ args w, (callFunc fn args).run Tryz.prog w = .ok (.enter fn args) w) ∧ ∀ (e : En) (a : Option Addr) (c : Nat) (w : World), e.path.length ≤ 1048576 → e.chunks.length ≤ 1048576 → Reads .i64 w a e.chunks → Below W0.heap.size W0 w →
    Calls Tryz.prog fn (#[.agg #[.int .i64 e.size, .slice a e.chunks.length c, .string (str e.path), .int .i64 e.kind]] ++ cap) w fun r w' => r = .returned (.bool (f e)) ∧ Below w.heap.size w w'
theorem Asks.next {W0 W : World} {fn : FuncId} {cap : Array Value} {f : En → Bool} (h : Asks W0 fn cap f) (hb : Below W0.heap.size W0 W) : Asks W fn cap f :=
  ⟨h.1, fun e a c w he hc hr hw => h.2 e a c w he hc hr (below_next hb hw)⟩
theorem find_step {es : List En} {f : En → Bool} {k : Nat} {e : En} (he : es[k]? = some e) (h : es.find? f = (es.drop k).find? f) (hf : f e = false) : es.find? f = (es.drop (k + 1)).find? f := by
  rw [h, drop_at he, List.find?_cons, hf]
theorem find_hit {es : List En} {f : En → Bool} {k : Nat} {e : En} (he : es[k]? = some e) (h : es.find? f = (es.drop k).find? f) (hf : f e = true) : es.find? f = some e := by
  rw [h, drop_at he, List.find?_cons, hf]
theorem find_stop {es : List En} {f : En → Bool} {k : Nat} (hk : es.length ≤ k) (h : es.find? f = (es.drop k).find? f) : es.find? f = none := by
  rw [h, List.drop_eq_nil_of_le hk]; rfl

/-- What 'first' answers. -/
def FirstI (o : Option En) (w : World) (r : Ending) : Prop :=
  (∃ e x cc, o = some e ∧ r = .returned (.tuple #[.agg #[.int .i64 e.size, .slice x e.chunks.length cc, .string (str e.path), .int .i64 e.kind], .bool true]) ∧ Reads .i64 w x e.chunks) ∨
    (o = none ∧ r = .returned (.tuple #[.agg #[.int .i64 0, .slice none 0 0, .string ⟨#[]⟩, .int .i64 0], .bool false]))
end Go.Proofs.YtlbccbikepkfiaaGreatDoor
