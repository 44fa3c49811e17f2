/-
  The model's draw of a manifest out of a code.
-/
import Derived.Test.YtmehngcbafdcgaaDoorManD
namespace Go.Proofs.YtmehngcbafdcgaaDoor
open Go.RowKit Go.Maps
set_option linter.unusedVariables false

set_option maxRecDepth 100000 in
set_option maxHeartbeats 1600000 in
theorem drawPackManifest_any (a : Option Addr) (cap : Nat) (zs : List Int) (w : World) (h : Reads .u8 w a zs) (hu : U8 zs) (hl : zs.length ≤ 1048576) :
    Calls Tryd.prog 9 #[.slice a zs.length cap] w fun e w' => ∃ (n : Bs) (ds : List Int) (av : Option Addr) (cv : Nat), e = .returned (.agg #[.string (str n), .slice av ds.length cv]) ∧ n.length ≤ 5 ∧ ds.length ≤ 5 ∧ Reads .i64 w' av ds ∧ Below w.heap.size w w' := by
  have X0 := hide (Box.new w (.string ⟨#[]⟩) (.slice none 0 0) 27)
  have B0 := hide (below_alloc w (.cells #[.string ⟨#[]⟩, .slice none 0 0] 27))
  have R0 := hide (h.below B0.out)
  have HU := hide hu
  clear h hu
  go_enter Tryd.func9, Tryd.ntmps9
  go_wp2_with fail
  have hsz : (w.alloc (.cells #[.string ⟨#[]⟩, .slice none 0 0] 27)).heap.size = w.heap.size + 1 := by simp
  generalize w.alloc (.cells #[.string ⟨#[]⟩, .slice none 0 0] 27) = W0 at *
  refine (l1Source_any a cap zs _ R0.out).mono ?_
  rintro e w1 ⟨rfl, s1, hz1, b1⟩
  have X1 := hide (X0.out.below b1)
  have S1 := hide (show SrcX w1 W0.heap.size zs 0 from ⟨0, by omega, by omega, s1⟩)
  have B1 := hide (below_next B0.out b1)
  clear s1 b1 X0 B0 R0
  rw [hsz] at S1 hz1 ⊢
  go_wp2_with fail
  refine (l5Draw_e (w.heap.size + 1) zs 0 _ S1.out HU.out (by omega) (by omega) (by omega)).mono ?_
  rintro e w2 ⟨n, ds, av, cv, rfl, hn, hd, ho2, -, k2⟩
  have R2 := hide (ownInts_readsD ho2 rfl)
  have OL := hide (fun b hq => (ho2.lt b hq).1)
  have X2 := X1.out.kept k2 (by omega)
  have B2 := hide (B1.out.trans (k2.below (B := w.heap.size) (by omega) (fun b hb e => by omega)))
  have O2 := hide ho2
  clear k2 ho2 X1 B1
  obtain ⟨⟨x0, x1⟩, x2, x3⟩ := X2
  go_wp2_with fail
  have KS := Kept.two w2 w.heap.size 0 1 (.string (str n)) (.slice av ds.length cv)
  exact bodyPost_ret (v := .agg #[.string (str n), .slice av ds.length cv]) (by simp [results, Tryd.results9, go_sem, x0, x1]) rfl ⟨n, ds, av, cv, rfl, hn, hd, ownInts_readsD (ownsRow_kept O2.out KS (fun b hq e => by have := OL.out b hq; omega)) rfl, B2.out.trans (KS.below (B := w.heap.size) B2.out.size (fun b hb e => by omega))⟩
end Go.Proofs.YtmehngcbafdcgaaDoor
