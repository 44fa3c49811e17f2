/-
  Texts put together: OvrO MntG OvrG MntI MntJ.
-/
import Derived.Test.YtolnlfnndnpiiaaGreatKGrows23
import Derived.Test.YtolnlfnndnpiiaaGreatKGrows9
import Derived.Test.YtolnlfnndnpiiaaGreatKGrows21
import Derived.Test.YtolnlfnndnpiiaaGreatKGrows11
import Derived.Test.YtolnlfnndnpiiaaGreatKGrows7
import Derived.Test.YtolnlfnndnpiiaaGreatKGrows22
import Derived.Test.YtolnlfnndnpiiaaGreatKGrows6
import Derived.Test.YtolnlfnndnpiiaaGreatKGrows5
import Derived.Test.YtolnlfnndnpiiaaGreatKGrows20
namespace Go.Proofs.YtolnlfnndnpiiaaGreat
open Go.RowKit Go.Maps
set_option linter.unusedVariables false
attribute [local go_sem ↓] Go.wp_at_zero Go.wp_at_succ

def LookNo (w : World) (r : Ending) (w' : World) : Prop :=
  r = .returned (.tuple #[.agg #[.string ⟨#[]⟩, .int .i64 0, .int .i64 0, .slice none 0 0], .bool false]) ∧ Below w.heap.size w w'
def LookYes (e : En) (w : World) (r : Ending) (w' : World) : Prop :=
  ∃ x c, r = .returned (.tuple #[.agg #[.string (str e.path), .int .i64 e.kind, .int .i64 e.size, .slice x e.chunks.length c], .bool true]) ∧ w'.ownsRow w.heap.size 2 1 (.slice x e.chunks.length c) e.chunks.length (e.chunks.map (Value.int .i64)) ∧ Below w.heap.size w w'

def Eight (w : World) (b : Nat) (u0 u1 u2 u3 : Value) : Prop := Four w b u0 u1 u2 u3 ∧ ∀ i, w.frozen? ⟨b, i, none⟩ = false
theorem Eight.new (w : World) (u0 u1 u2 u3 : Value) (t : TypeId) : Eight (w.alloc (.cells #[u0, u1, u2, u3] t)).drew w.heap.size u0 u1 u2 u3 :=
  ⟨(Four.new w u0 u1 u2 u3 t).below (Below.refl _ _).drew, fun i => ((Below.refl (w.alloc (.cells #[u0, u1, u2, u3] t)).heap.size _).drew.frozen (p := ⟨w.heap.size, i, none⟩) (by simp)).trans (by simp)⟩
theorem Eight.below {w w' : World} {b : Nat} {u0 u1 u2 u3 : Value} (h : Eight w b u0 u1 u2 u3) (hk : Below w.heap.size w w') : Eight w' b u0 u1 u2 u3 :=
  ⟨h.1.below hk, fun i => (hk.frozen (p := ⟨b, i, none⟩) h.1.lt).trans (h.2 i)⟩
theorem Eight.kept {S : Nat → Prop} {w w' : World} {b : Nat} {u0 u1 u2 u3 : Value} (h : Eight w b u0 u1 u2 u3) (hk : Kept S w w') (hn : ¬ S b) : Eight w' b u0 u1 u2 u3 :=
  ⟨⟨(hk.cell (p := ⟨b, 0, none⟩) h.1.lt hn).trans h.1.1, (hk.cell (p := ⟨b, 1, none⟩) h.1.lt hn).trans h.1.2.1, (hk.cell (p := ⟨b, 2, none⟩) h.1.lt hn).trans h.1.2.2.1, (hk.cell (p := ⟨b, 3, none⟩) h.1.lt hn).trans h.1.2.2.2⟩, fun i => (hk.frozen (p := ⟨b, i, none⟩) h.1.lt hn).trans (h.2 i)⟩
theorem Eight.set1 {w : World} {b : Nat} {u0 u1 u2 u3 : Value} (h : Eight w b u0 u1 u2 u3) (v : Value) : Eight (w.setCell ⟨b, 1, none⟩ v) b u0 v u2 u3 :=
  ⟨⟨by rw [cell_set_other (by simp)]; exact h.1.1, cell_set_same h.1.2.1, by rw [cell_set_other (by simp)]; exact h.1.2.2.1, by rw [cell_set_other (by simp)]; exact h.1.2.2.2⟩, fun i => by rw [World.frozen?_setCell]; exact h.2 i⟩

set_option maxRecDepth 100000 in
set_option maxHeartbeats 3200000 in
theorem l8Look_none (a : Option Addr) (c n : Nat) (ls : List (List En)) (p : Bs) (w : World) (h : RdL w a ls) (hn : n = ls.length) (h4 : ls.length ≤ 4) (hR : ∀ es ∈ ls, Right es) (hp : faultP p = 0) (hpl : p.length ≤ 1048576) (hs : seenL ls p = none) :
    Calls Tryz.prog 169 #[.slice a n c, .string (str p)] w (LookNo w) := by
  subst hn
  have X0 := hide (Four.new w (.string ⟨#[]⟩) (.int .i64 0) (.int .i64 0) (.slice none 0 0) 50)
  have B0 := hide (below_alloc w (.cells #[.string ⟨#[]⟩, .int .i64 0, .int .i64 0, .slice none 0 0] 50))
  have HPL := hide (l8Place_any a c ls.length ls p _ (h.below B0.out) rfl h4 hR hp hpl)
  rw [hs, show placeI none = -1 from rfl] at HPL
  have f0 : ∀ i, (w.alloc (.cells #[.string ⟨#[]⟩, .int .i64 0, .int .i64 0, .slice none 0 0] 50)).frozen? ⟨w.heap.size, i, none⟩ = false := fun i => by simp
  clear h hR hs
  go_enter Tryz.func169, Tryz.ntmps169
  go_wp2_with fail
  refine HPL.out.mono ?_
  rintro r w1 ⟨rfl, hb1⟩
  have B1 := hide (below_next B0.out hb1)
  obtain ⟨t0, t1, t2, t3⟩ := X0.out.below hb1
  have g0 := fun i => (hb1.frozen (p := ⟨w.heap.size, i, none⟩) X0.out.lt).trans (f0 i)
  have g1 := g0 0
  have g2 := g0 1
  have g3 := g0 2
  have g4 := g0 3
  clear hb1 g0 f0
  go_wp2_with fail
  refine bodyPost_ret (v := .tuple #[.agg #[.string ⟨#[]⟩, .int .i64 0, .int .i64 0, .slice none 0 0], .bool false]) (by simp [results, Tryz.results169, go_sem, t0, t1, t2, t3]) rfl ⟨rfl, ?_⟩
  exact (((B1.out.setCell (p := ⟨w.heap.size, 0, none⟩) (Nat.le_refl _) _).setCell (p := ⟨w.heap.size, 1, none⟩) (Nat.le_refl _) _).setCell (p := ⟨w.heap.size, 2, none⟩) (Nat.le_refl _) _).setCell (p := ⟨w.heap.size, 3, none⟩) (Nat.le_refl _) _
set_option maxRecDepth 100000 in
set_option maxHeartbeats 6400000 in
theorem l8Look_some (a : Option Addr) (c n : Nat) (ls : List (List En)) (p : Bs) (w : World) (h : RdL w a ls) (hn : n = ls.length) (h4 : ls.length ≤ 4) (hR : ∀ es ∈ ls, Right es) (hp : faultP p = 0) (hpl : p.length ≤ 1048576) (i : Nat) (e : En) (hs : seenL ls p = some i) (he : seeL ls i p = some e) :
    Calls Tryz.prog 169 #[.slice a n c, .string (str p)] w (LookYes (asT e) w) := by
  subst hn
  obtain ⟨i0, hi0, hz0, hz1, hz2⟩ := info_parts Tryz.infoI64
  have X0 := hide (Four.new w (.string ⟨#[]⟩) (.int .i64 0) (.int .i64 0) (.slice none 0 0) 50)
  have B0 := hide (below_alloc w (.cells #[.string ⟨#[]⟩, .int .i64 0, .int .i64 0, .slice none 0 0] 50))
  have HPL := hide (l8Place_any a c ls.length ls p _ (h.below B0.out) rfl h4 hR hp hpl)
  rw [hs, show placeI (some i) = (i : Int) from rfl] at HPL
  have f0 : ∀ i, (w.alloc (.cells #[.string ⟨#[]⟩, .int .i64 0, .int .i64 0, .slice none 0 0] 50)).frozen? ⟨w.heap.size, i, none⟩ = false := fun i => by simp
  have hil : i < ls.length := by
    have := seeL_mem he
    unfold seeL at he
    cases hh : ls[i]? with
    | none => rw [hh] at he; cases he
    | some y => exact (List.getElem?_eq_some_iff.1 hh).1
  obtain ⟨b, off, es, x, cc, rfl, hb, hes, c0, hr⟩ := h.at hil
  have hRi := hR es (List.mem_of_getElem? hes)
  have hel := hRi.len
  have hfe : findE es p = some e := by rw [← seeL_at hes]; exact he
  obtain ⟨q, hq⟩ : ∃ q, atE es p = some q := by
    cases ha : atE es p with
    | none => rw [find_at_none ha] at hfe; cases hfe
    | some q => exact ⟨q, rfl⟩
  obtain ⟨e', he', hfe'⟩ := find_at_some hq
  have : e' = e := Option.some.inj (hfe'.symm.trans hfe)
  subst this
  have hqlt := atE_lt hq
  obtain ⟨bb, off2, e2, y, yc, rfl, hbb, he2, z0, z1, z2, z3, hrc⟩ := hr.at hqlt
  have : e2 = e' := Option.some.inj (he2.symm.trans he')
  subst this
  have hsm := right_small hRi e2 (List.mem_of_getElem? he2)
  have hek := ent_kinds (hRi.ent e2 (List.mem_of_getElem? he2))
  have KS : Hid (∀ w', Below w.heap.size w w' → w'.cell? ⟨b, off + i, none⟩ = some (.slice (some ⟨bb, off2, none⟩) es.length cc) ∧ w'.cell? ⟨bb, off2 + q * 4, none⟩ = some (.string (str e2.path)) ∧ w'.cell? ⟨bb, off2 + q * 4 + 1, none⟩ = some (.int .i64 e2.kind) ∧ w'.cell? ⟨bb, off2 + q * 4 + 2, none⟩ = some (.int .i64 e2.size) ∧ w'.cell? ⟨bb, off2 + q * 4 + 3, none⟩ = some (.slice y e2.chunks.length yc)) := hide (fun w' hb' => ⟨(hb'.cell (p := ⟨b, off + i, none⟩) hb).trans c0, (hb'.cell (p := ⟨bb, off2 + q * 4, none⟩) hbb).trans z0, (hb'.cell (p := ⟨bb, off2 + q * 4 + 1, none⟩) hbb).trans z1, (hb'.cell (p := ⟨bb, off2 + q * 4 + 2, none⟩) hbb).trans z2, (hb'.cell (p := ⟨bb, off2 + q * 4 + 3, none⟩) hbb).trans z3⟩)
  have HAT : Hid (∀ w', Below w.heap.size w w' → Calls Tryz.prog 163 #[.slice (some ⟨bb, off2, none⟩) es.length cc, .string (str p)] w' fun r w2 => r = .returned (.int .i64 q) ∧ w2 = w') := hide (fun w' hb' => by have h1 := l4At_any (some ⟨bb, off2, none⟩) cc es.length es p w' (hr.below hb') rfl (by omega); rw [hq] at h1; exact h1)
  have HRC := hide hrc
  have hi1 : (0 : Int) ≤ (i : Int) := by omega
  have hi2 : (i : Int) < (ls.length : Int) := by omega
  have hi3 : ¬ (i : Int) < 0 := by omega
  have hq1 : (0 : Int) ≤ (q : Int) := by omega
  have hq2 : (q : Int) < (es.length : Int) := by omega
  clear h hR hs he hes c0 hr hRi hfe hq he' hfe' he2 z0 z1 z2 z3 hrc
  go_enter Tryz.func169, Tryz.ntmps169
  go_wp2_with fail
  refine HPL.out.mono ?_
  rintro r w1 ⟨rfl, hb1⟩
  have B1 := hide (below_next B0.out hb1)
  have X1 := hide (X0.out.below hb1)
  have FZ := hide (fun i => (hb1.frozen (p := ⟨w.heap.size, i, none⟩) X0.out.lt).trans (f0 i))
  clear hb1 f0 X0 HPL
  obtain ⟨s0, s1, s2, s3, s4⟩ := KS.out _ B1.out
  go_wp2_with fail
  go_region_held3 (fun w' => w'.cell? ⟨b, off + i, none⟩ = some (.slice (some ⟨bb, off2, none⟩) es.length cc) ∧ w'.cell? ⟨bb, off2 + q * 4, none⟩ = some (.string (str e2.path)) ∧ w'.cell? ⟨bb, off2 + q * 4 + 1, none⟩ = some (.int .i64 e2.kind) ∧ w'.cell? ⟨bb, off2 + q * 4 + 2, none⟩ = some (.int .i64 e2.size) ∧ w'.cell? ⟨bb, off2 + q * 4 + 3, none⟩ = some (.slice y e2.chunks.length yc)) (first | exact KS.out _ B1.out.drew | exact KS.out _ (below_next B1.out (below_alloc _ _)).drew | exact KS.out _ (below_next B1.out (below_alloc _ _)) | go_keep)
    ((go_at_call 163; refine (HAT.out _ (by first | exact B1.out.drew | exact (below_next B1.out (below_alloc _ _)).drew)).mono ?_; rintro r w9 ⟨rfl, hw9⟩; have hw8 := hw9.symm; clear hw9; subst hw8))
  all_goals
    have BD := hide (below_next B1.out (below_alloc w1 (.cells #[.string (str e2.path), .int .i64 e2.kind, .int .i64 e2.size, .slice y e2.chunks.length yc] 50))).drew
    have BE := hide ((below_alloc w1 (.cells #[.string (str e2.path), .int .i64 e2.kind, .int .i64 e2.size, .slice y e2.chunks.length yc] 50)).drew)
    have XE : Hid (Eight (w1.alloc (.cells #[.string (str e2.path), .int .i64 e2.kind, .int .i64 e2.size, .slice y e2.chunks.length yc] 50)).drew w1.heap.size (.string (str e2.path)) (.int .i64 e2.kind) (.int .i64 e2.size) (.slice y e2.chunks.length yc)) := hide (Eight.new w1 _ _ _ _ _)
    have XR : Hid (Eight (w1.alloc (.cells #[.string (str e2.path), .int .i64 e2.kind, .int .i64 e2.size, .slice y e2.chunks.length yc] 50)).drew w.heap.size (.string ⟨#[]⟩) (.int .i64 0) (.int .i64 0) (.slice none 0 0)) := hide (Eight.below (w := w1) ⟨X1.out, FZ.out⟩ BE.out)
    have hRE : w.heap.size < w1.heap.size := X1.out.lt
    have hEW : w1.heap.size < (w1.alloc (.cells #[.string (str e2.path), .int .i64 e2.kind, .int .i64 e2.size, .slice y e2.chunks.length yc] 50)).drew.heap.size := XE.out.1.lt
    clear X1 FZ s0 s1 s2 s3 s4 KS HAT BE B1 B0
    generalize (w1.alloc (.cells #[.string (str e2.path), .int .i64 e2.kind, .int .i64 e2.size, .slice y e2.chunks.length yc] 50)).drew = WD at *
    generalize w1.heap.size = be at *
    have hne : w.heap.size ≠ be := by omega
    have hne2 : be ≠ w.heap.size := by omega
    have hm0 : 0 + e2.chunks.length ≤ maxLen := by unfold maxLen; omega
    have hm0' : (0 + e2.chunks.length) * 8 ≤ 140737488355328 := by omega
    obtain ⟨⟨e0, e1, e3, e4⟩, ez⟩ := XE.out
    have ez1 := ez 1
    have ez3 := ez 3
    clear ez
    by_cases h4k : e2.kind = 4
    · have h4' : (e2.kind == 4) = true := by simpa using h4k
      have HAS := hide (show asT e2 = ⟨e2.path, 2, e2.size, e2.chunks⟩ from by unfold asT; rw [if_pos h4k]; rfl)
      clear h4k
      have XE5 := hide (XE.out.set1 (.int .i64 2))
      have XR5 := hide (XR.out.kept (Kept.setCell (S := fun b => b = be) (p := ⟨be, 1, none⟩) (Kept.refl _ WD) (fun _ => rfl) (.int .i64 2)) hne)
      have BW5 := hide (BD.out.setCell (p := ⟨be, 1, none⟩) (by show w.heap.size ≤ be; omega) (.int .i64 2))
      have hz5 : (WD.setCell ⟨be, 1, none⟩ (.int .i64 2)).heap.size = WD.heap.size := by simp [World.setCell]
      have OWN0 : Hid (((WD.setCell ⟨be, 1, none⟩ (.int .i64 2)).alloc (.cells #[] 2)).ownsRow WD.heap.size 2 1 (.slice (some ⟨WD.heap.size, 0, none⟩) 0 0) 0 (([] : List Int).map (Value.int .i64))) := hide (by have h := World.ownsRow_made (base := (WD.setCell ⟨be, 1, none⟩ (.int .i64 2)).heap.size) (e := 2) (size := 1) (WD.setCell ⟨be, 1, none⟩ (.int .i64 2)) #[] 0 (Nat.le_refl _) (Nat.zero_le _) rfl; rw [hz5] at h; exact h)
      have RD0 : Hid (Reads .i64 ((WD.setCell ⟨be, 1, none⟩ (.int .i64 2)).alloc (.cells #[] 2)) y e2.chunks) := hide (HRC.out.below (below_next BW5.out (below_alloc _ _)))
      have XEA := hide (XE5.out.below (below_alloc (WD.setCell ⟨be, 1, none⟩ (.int .i64 2)) (.cells #[] 2)))
      have XRA := hide (XR5.out.below (below_alloc (WD.setCell ⟨be, 1, none⟩ (.int .i64 2)) (.cells #[] 2)))
      have hlE : be < WD.heap.size := XE.out.1.lt
      have hlR : w.heap.size < WD.heap.size := XR.out.1.lt
      have KK : Hid (∀ W6 : World, Kept (fun b => b = WD.heap.size) ((WD.setCell ⟨be, 1, none⟩ (.int .i64 2)).alloc (.cells #[] 2)) W6 → Eight W6 be (.string (str e2.path)) (.int .i64 2) (.int .i64 e2.size) (.slice y e2.chunks.length yc) ∧ Eight W6 w.heap.size (.string ⟨#[]⟩) (.int .i64 0) (.int .i64 0) (.slice none 0 0)) := hide (fun W6 hk => ⟨XEA.out.kept hk (by omega), XRA.out.kept hk (by omega)⟩)
      clear XEA XRA
      go_wp2_with (at_builtin; refine wpList_append_take rfl (.tmp 30) (.tmp 32) 48 rfl WD.heap.size 2 i0 .i64 8 Tryz.underlying48 hi0 hz0 hz1 hz2 WD.heap.size 0 0 [] rfl OWN0.out y e2.chunks.length yc e2.chunks rfl rfl RD0.out e2.chunks.length (by simp) hm0 hm0' (by simp) ?_; intro av cv w6 hown6 hk6; obtain ⟨⟨⟨p0, p1, p2, p3⟩, pz⟩, ⟨⟨r0, r1, r2, r3⟩, rz⟩⟩ := KK.out _ hk6; have pz3 := pz 3; have rz0 := rz 0; have rz1 := rz 1; have rz2 := rz 2; have rz3 := rz 3; have O6 := hide hown6; have K6 := hide hk6; clear pz rz hown6 hk6)
      have BB6 := hide ((below_next BW5.out (below_alloc (WD.setCell ⟨be, 1, none⟩ (.int .i64 2)) (.cells #[] 2))).trans (K6.out.below (B := w.heap.size) (by have := (below_next BW5.out (below_alloc (WD.setCell ⟨be, 1, none⟩ (.int .i64 2)) (.cells #[] 2))).size; omega) (fun k hk hS => by omega)))
      rw [HAS.out]
      refine bodyPost_ret (v := .tuple #[.agg #[.string (str e2.path), .int .i64 2, .int .i64 e2.size, .slice av e2.chunks.length cv], .bool true]) (by simp [results, Tryz.results169, go_sem, r0, r1, r2, r3]) rfl ⟨av, cv, rfl, ?_, ?_⟩
      · refine ownsRow_mono (base := WD.heap.size) ?_ (by omega)
        refine ownsRow_kept (S := fun b => b = be ∨ b = w.heap.size) (by simpa using O6.out) ?_ (fun b hb hS => by have := (O6.out.lt b hb).1; omega)
        exact Kept.setCell (S := fun b => b = be ∨ b = w.heap.size) (p := ⟨w.heap.size, 3, none⟩) (Kept.setCell (S := fun b => b = be ∨ b = w.heap.size) (p := ⟨w.heap.size, 2, none⟩) (Kept.setCell (S := fun b => b = be ∨ b = w.heap.size) (p := ⟨w.heap.size, 1, none⟩) (Kept.setCell (S := fun b => b = be ∨ b = w.heap.size) (p := ⟨w.heap.size, 0, none⟩) (Kept.setCell (S := fun b => b = be ∨ b = w.heap.size) (p := ⟨be, 3, none⟩) (Kept.refl _ _) (fun _ => .inl rfl) _) (fun _ => .inr rfl) _) (fun _ => .inr rfl) _) (fun _ => .inr rfl) _) (fun _ => .inr rfl) _
      · exact ((((BB6.out.setCell (p := ⟨be, 3, none⟩) (by show w.heap.size ≤ be; omega) _).setCell (p := ⟨w.heap.size, 0, none⟩) (Nat.le_refl _) _).setCell (p := ⟨w.heap.size, 1, none⟩) (Nat.le_refl _) _).setCell (p := ⟨w.heap.size, 2, none⟩) (Nat.le_refl _) _).setCell (p := ⟨w.heap.size, 3, none⟩) (Nat.le_refl _) _
    · have h4' : (e2.kind == 4) = false := by simpa using h4k
      have HAS := hide (show asT e2 = ⟨e2.path, e2.kind, e2.size, e2.chunks⟩ from by unfold asT; rw [if_neg h4k])
      clear h4k
      have XE5 := XE
      have XR5 := XR
      have BW5 := BD
      have OWN0 : Hid ((WD.alloc (.cells #[] 2)).ownsRow WD.heap.size 2 1 (.slice (some ⟨WD.heap.size, 0, none⟩) 0 0) 0 (([] : List Int).map (Value.int .i64))) := hide (World.ownsRow_made (base := WD.heap.size) (e := 2) (size := 1) WD #[] 0 (Nat.le_refl _) (Nat.zero_le _) rfl)
      have RD0 : Hid (Reads .i64 (WD.alloc (.cells #[] 2)) y e2.chunks) := hide (HRC.out.below (below_next BW5.out (below_alloc _ _)))
      have XEA := hide (XE5.out.below (below_alloc WD (.cells #[] 2)))
      have XRA := hide (XR5.out.below (below_alloc WD (.cells #[] 2)))
      have hlE := XE5.out.1.lt
      have hlR := XR5.out.1.lt
      have KK : Hid (∀ W6 : World, Kept (fun b => b = WD.heap.size) (WD.alloc (.cells #[] 2)) W6 → Eight W6 be (.string (str e2.path)) (.int .i64 e2.kind) (.int .i64 e2.size) (.slice y e2.chunks.length yc) ∧ Eight W6 w.heap.size (.string ⟨#[]⟩) (.int .i64 0) (.int .i64 0) (.slice none 0 0)) := hide (fun W6 hk => ⟨XEA.out.kept hk (by omega), XRA.out.kept hk (by omega)⟩)
      clear XEA XRA
      go_wp2_with (at_builtin; refine wpList_append_take rfl (.tmp 30) (.tmp 32) 48 rfl WD.heap.size 2 i0 .i64 8 Tryz.underlying48 hi0 hz0 hz1 hz2 WD.heap.size 0 0 [] rfl OWN0.out y e2.chunks.length yc e2.chunks rfl rfl RD0.out e2.chunks.length (by simp) hm0 hm0' (by simp) ?_; intro av cv w6 hown6 hk6; obtain ⟨⟨⟨p0, p1, p2, p3⟩, pz⟩, ⟨⟨r0, r1, r2, r3⟩, rz⟩⟩ := KK.out _ hk6; have pz3 := pz 3; have rz0 := rz 0; have rz1 := rz 1; have rz2 := rz 2; have rz3 := rz 3; have O6 := hide hown6; have K6 := hide hk6; clear pz rz hown6 hk6)
      have BB6 := hide ((below_next BW5.out (below_alloc WD (.cells #[] 2))).trans (K6.out.below (B := w.heap.size) (by have := (below_next BW5.out (below_alloc WD (.cells #[] 2))).size; omega) (fun k hk hS => by omega)))
      rw [HAS.out]
      refine bodyPost_ret (v := .tuple #[.agg #[.string (str e2.path), .int .i64 e2.kind, .int .i64 e2.size, .slice av e2.chunks.length cv], .bool true]) (by simp [results, Tryz.results169, go_sem, r0, r1, r2, r3]) rfl ⟨av, cv, rfl, ?_, ?_⟩
      · refine ownsRow_mono (base := WD.heap.size) ?_ (by omega)
        refine ownsRow_kept (S := fun b => b = be ∨ b = w.heap.size) (by simpa using O6.out) ?_ (fun b hb hS => by have := (O6.out.lt b hb).1; omega)
        exact Kept.setCell (S := fun b => b = be ∨ b = w.heap.size) (p := ⟨w.heap.size, 3, none⟩) (Kept.setCell (S := fun b => b = be ∨ b = w.heap.size) (p := ⟨w.heap.size, 2, none⟩) (Kept.setCell (S := fun b => b = be ∨ b = w.heap.size) (p := ⟨w.heap.size, 1, none⟩) (Kept.setCell (S := fun b => b = be ∨ b = w.heap.size) (p := ⟨w.heap.size, 0, none⟩) (Kept.setCell (S := fun b => b = be ∨ b = w.heap.size) (p := ⟨be, 3, none⟩) (Kept.refl _ _) (fun _ => .inl rfl) _) (fun _ => .inr rfl) _) (fun _ => .inr rfl) _) (fun _ => .inr rfl) _) (fun _ => .inr rfl) _
      · exact ((((BB6.out.setCell (p := ⟨be, 3, none⟩) (by show w.heap.size ≤ be; omega) _).setCell (p := ⟨w.heap.size, 0, none⟩) (Nat.le_refl _) _).setCell (p := ⟨w.heap.size, 1, none⟩) (Nat.le_refl _) _).setCell (p := ⟨w.heap.size, 2, none⟩) (Nat.le_refl _) _).setCell (p := ⟨w.heap.size, 3, none⟩) (Nat.le_refl _) _
end Go.Proofs.YtolnlfnndnpiiaaGreat

namespace Go.Proofs.YtolnlfnndnpiiaaGreat
open Go.RowKit Go.Maps
set_option linter.unusedVariables false
attribute [local go_sem ↓] Go.wp_at_zero Go.wp_at_succ

def fillStep (o : List En) (u : Bs) : List En := if findE o u = none then putE o (dirQ u) else o
def fillS (U : List En) (e : En) : List En := putE ((above e.path).foldl fillStep U) e
theorem small_putE {es : List En} {e : En} (h : SmallE es) (hp : e.path.length ≤ 1048576) (hc : e.chunks.length ≤ 1048576) : SmallE (putE es e) := fun x hx => by
  rcases mem_putE.1 hx with rfl | ⟨hx, -⟩
  · exact ⟨hp, hc⟩
  · exact h x hx
theorem step_len (o : List En) (u : Bs) : (fillStep o u).length ≤ o.length + 1 := by
  unfold fillStep
  split
  · rw [putE_len]; have := baseE_len o (dirQ u); omega
  · omega
theorem step_small {o : List En} {u : Bs} (h : SmallE o) (hu : u.length ≤ 1048576) : SmallE (fillStep o u) := by
  unfold fillStep
  split
  · exact small_putE h hu (by simp [dirQ])
  · exact h
theorem fold_len (o : List En) : ∀ us : List Bs, (us.foldl fillStep o).length ≤ o.length + us.length := by
  intro us
  induction us generalizing o with
  | nil => simp
  | cons u us ih => have h1 := ih (fillStep o u); have h2 := step_len o u; simp only [List.foldl_cons, List.length_cons]; omega
theorem fold_at {o : List En} {us : List Bs} {k : Nat} {u : Bs} (h : us[k]? = some u) : (us.take (k + 1)).foldl fillStep o = fillStep ((us.take k).foldl fillStep o) u := by rw [take_at h, List.foldl_append]; rfl
set_option maxRecDepth 100000 in
set_option maxHeartbeats 6400000 in
theorem l9Fill_any (o : Option Addr) (oc on : Nat) (O : List En) (a : Option Addr) (c n : Nat) (U : List En) (e : En) (x : Option Addr) (m cc : Nat) (w : World) (hO : RdE w o O) (hon : on = O.length) (hOl : O.length ≤ 1000) (hOs : SmallE O) (h : RdE w a U) (hn : n = U.length) (hl : U.length ≤ 1000) (hs : SmallE U) (hp : faultP e.path = 0) (hm : m = e.chunks.length) (hx : Reads .i64 w x e.chunks) (hpl : e.path.length ≤ 1048576) (hcl : e.chunks.length ≤ 1048576)
    (rep : Int) (V : List En) (hV : (12 < (fillS U e).length → rep = 2 ∧ V = O) ∧ (¬ 12 < (fillS U e).length → rep = 0 ∧ V = fillS U e)) :
    Calls Tryz.prog 170 #[.slice o on oc, .slice a n c, .agg #[.string (str e.path), .int .i64 e.kind, .int .i64 e.size, .slice x m cc]] w (ResG 0 rep V w) := by
  subst hn
  subst hm
  subst hon
  have hsz := str_size e.path
  have h1 : 1 ≤ (str e.path).size := faultP_pos (by rw [str_data]; exact hp)
  have HAB := hide (show aboveN (cutB (str e.path).data.toList.tail) = above e.path from by rw [str_data, above_good hp])
  have hul := above_len e.path
  have HUS := hide (fun u (hu : u ∈ above e.path) => above_small hp u hu)
  have B0 := hide (below_next (below_alloc w (.cells #[.string (str e.path), .int .i64 e.kind, .int .i64 e.size, .slice x e.chunks.length cc] 50)) (below_alloc (w.alloc (.cells #[.string (str e.path), .int .i64 e.kind, .int .i64 e.size, .slice x e.chunks.length cc] 50)) (.cells #[.int .i64 0, .int .i64 0, .slice none 0 0] 64)))
  have FE0 := hide ((Four.new w (.string (str e.path)) (.int .i64 e.kind) (.int .i64 e.size) (.slice x e.chunks.length cc) 50).below (below_alloc (w.alloc (.cells #[.string (str e.path), .int .i64 e.kind, .int .i64 e.size, .slice x e.chunks.length cc] 50)) (.cells #[.int .i64 0, .int .i64 0, .slice none 0 0] 64)))
  have X0 := hide (Box3.new (w.alloc (.cells #[.string (str e.path), .int .i64 e.kind, .int .i64 e.size, .slice x e.chunks.length cc] 50)) (.int .i64 0) (.int .i64 0) (.slice none 0 0) 64)
  have hsA : (w.alloc (.cells #[.string (str e.path), .int .i64 e.kind, .int .i64 e.size, .slice x e.chunks.length cc] 50)).heap.size = w.heap.size + 1 := by simp
  rw [hsA] at X0
  have HC := hide (l4Copy_any a c U.length U _ (h.below B0.out) rfl (by omega) hs)
  have HRO := hide hO
  have HOS := hide hOs
  have HX := hide hx
  have HS := hide hs
  have HFS := hide (show fillS U e = putE ((above e.path).foldl fillStep U) e from rfl)
  have HV := hide hV
  clear hO hOs h hs hx hsA hV hp
  generalize above e.path = ups at *
  generalize fillS U e = FS at *
  go_enter Tryz.func170, Tryz.ntmps170
  go_wp2_with fail
  generalize hW0 : (w.alloc (.cells #[.string (str e.path), .int .i64 e.kind, .int .i64 e.size, .slice x e.chunks.length cc] 50)).alloc (.cells #[.int .i64 0, .int .i64 0, .slice none 0 0] 64) = W0 at *
  have hs0 : W0.heap.size = w.heap.size + 2 := by rw [← hW0]; simp
  clear hW0
  have hlt0 := X0.out.lt
  refine HC.out.mono ?_
  rintro r w1 ⟨g1, cv1, rfl, -, hG1, hb1⟩
  have G1 := hide (GW.of hG1)
  have hs1 := hb1.size
  have B1 := hide (below_next B0.out hb1)
  have FE1 := hide (FE0.out.below hb1)
  have X1 := hide (X0.out.below hb1)
  clear hG1 hb1 HC FE0 X0
  have f0 := FE1.out.1
  go_wp2_with fail
  clear f0
  refine (l3Above_any (str e.path) _ h1 (by omega)).mono ?_
  rintro r w2 ⟨v, rfl, ho2, hb2⟩
  rw [HAB.out] at ho2
  obtain ⟨uv, uc, rfl⟩ := ownsRow_shape ho2
  have RU := hide (OwnS.reads ho2)
  have G2 := hide ((G1.out.below hb2).mono (B' := w.heap.size + 2) (by omega))
  have hs2 := hb2.size
  have B2 := hide (below_next B1.out hb2)
  have FE2 := hide (FE1.out.below hb2)
  have X2 := hide (X1.out.below hb2)
  clear ho2 hb2 G1 FE1 X1 B1 HAB
  go_wp2_with fail
  go_loopw [7, 9] (fun v i wr => ∃ (k : Nat) (av : Option Addr) (cv : Nat), k ≤ ups.length ∧ i = .int .i64 k ∧ v = .slice av ((ups.take k).foldl fillStep U).length cv ∧ Hid (GW (w.heap.size + 2) wr (.slice av ((ups.take k).foldl fillStep U).length cv) ((ups.take k).foldl fillStep U)) ∧ Hid (SmallE ((ups.take k).foldl fillStep U)) ∧ Hid (Below w2.heap.size w2 wr)) (fun _ i _ => ups.length - (intOf i).toNat)
  case atStart => exact ⟨0, some ⟨g1, 0, none⟩, cv1, Nat.zero_le _, rfl, rfl, G2, HS, hide (Below.refl _ _)⟩
  case round =>
    obtain ⟨k, av, cv, hk, rfl, rfl, HGk, HSk, HW⟩ := hrel
    have hkl := fold_len U (ups.take k)
    have htk : (ups.take k).length ≤ 2 := by rw [List.length_take]; omega
    have hws := HW.out.size
    by_cases hlt : k < ups.length
    · obtain ⟨b, off, u, rfl, hb, hu, c0⟩ := (RU.out.below HW.out).at hlt
      have HFA := hide (fold_at (o := U) hu)
      have hus := HUS.out u (List.mem_of_getElem? hu)
      have hk0 : (0 : Int) ≤ (k : Int) := by omega
      have hk1 : (k : Int) < (ups.length : Int) := by omega
      clear hu
      obtain ⟨LF, hLF⟩ : ∃ LF, LF = (ups.take k).foldl fillStep U := ⟨_, rfl⟩
      rw [← hLF] at HFA HGk HSk hkl ⊢
      clear hLF
      have HAT := hide (l4At_any av cv LF.length LF u wr HGk.out.rd rfl (by omega))
      cases ha : atE LF u with
      | none =>
        have HST := hide (show fillStep LF u = putE LF (dirQ u) from by rw [fillStep, if_pos (find_at_none ha)])
        have HPU := hide (l4Put_any av cv LF.length LF (dirQ u) none 0 0 wr HGk.out.rd rfl (by omega) HSk.out rfl (fun hz => absurd rfl hz) (by show u.length ≤ 1048576; omega) (by simp [dirQ]))
        have HSN := hide (step_small HSk.out (show u.length ≤ 1048576 by omega))
        rw [ha, show placeI none = -1 from rfl] at HAT
        clear ha
        go_wp2_with fail
        refine HAT.out.mono ?_
        rintro r w3 ⟨rfl, hw3⟩
        have hw4 := hw3.symm
        clear hw3
        subst hw4
        go_wp2_with fail
        refine HPU.out.mono ?_
        rintro r w5 ⟨g5, cv5, rfl, hG5, hb5⟩
        have G5 := hide ((GW.of hG5).mono (B' := w.heap.size + 2) (by omega))
        have B5 := hide (below_next HW.out hb5)
        clear hG5 hb5 HAT HPU
        go_wp2_with fail
        go_roundw
        case rel =>
          refine ⟨k + 1, some ⟨g5, 0, none⟩, cv5, by omega, by go_num, ?_, ?_, ?_, B5⟩
          · rw [HFA.out, HST.out]
          · rw [HFA.out, HST.out]; exact G5
          · rw [HFA.out]; exact HSN
        case measure => simp [intOf]; omega
      | some q =>
        obtain ⟨e2, -, hf2⟩ := find_at_some ha
        have HST := hide (show fillStep LF u = LF from by rw [fillStep, if_neg (by rw [hf2]; simp)])
        rw [ha, show placeI (some q) = (q : Int) from rfl] at HAT
        have hq0 : ¬ (q : Int) < 0 := by omega
        clear ha hf2
        go_wp2_with fail
        refine HAT.out.mono ?_
        rintro r w3 ⟨rfl, hw3⟩
        have hw4 := hw3.symm
        clear hw3
        subst hw4
        go_wp2_with fail
        go_roundw
        case rel =>
          refine ⟨k + 1, av, cv, by omega, by go_num, ?_, ?_, ?_, HW⟩
          · rw [HFA.out, HST.out]
          · rw [HFA.out, HST.out]; exact HGk
          · rw [HFA.out, HST.out]; exact HSk
        case measure => simp [intOf]; omega
    · have hE : ups.take k = ups := List.take_of_length_le (by omega)
      rw [hE] at HGk HSk hkl ⊢
      clear hE
      obtain ⟨LF, hLF⟩ : ∃ LF, LF = ups.foldl fillStep U := ⟨_, rfl⟩
      rw [← hLF] at HGk HSk hkl HFS ⊢
      clear hLF
      have BWr := hide (below_next B2.out HW.out)
      have hbe := B2.out.size
      have HPU := hide (l4Put_any av cv LF.length LF e x e.chunks.length cc wr HGk.out.rd rfl (by omega) HSk.out rfl (HX.out.below BWr.out) hpl hcl)
      rw [← HFS.out] at HPU
      obtain ⟨f0, f1, f2, f3⟩ := FE2.out.below HW.out
      go_wp2_with fail
      clear f0 f1 f2 f3
      refine HPU.out.mono ?_
      rintro r w5 ⟨g5, cv5, rfl, hG5, hb5⟩
      have G5 := hide ((GW.of hG5).mono (B' := w.heap.size + 2) (by omega))
      have B5 := hide (below_next BWr.out hb5)
      have X5 := hide (X2.out.below (below_next HW.out hb5))
      have hs5 := hb5.size
      clear hG5 hb5 HPU
      by_cases h12 : 12 < FS.length
      · obtain ⟨e1, e2⟩ := HV.out.1 h12
        have HE1 := hide e1
        have HE2 := hide e2
        have h12' : (12 : Int) < (FS.length : Int) := by omega
        have HRP := hide (l9Reply_any o oc O.length O 2 w5 (HRO.out.below B5.out) rfl (by omega) HOS.out)
        clear e1 e2 h12
        go_wp2_with fail
        refine HRP.out.mono ?_
        rintro r w6 ⟨av6, cv6, rfl, hG6, hb6⟩
        have G6 := hide hG6
        have B6 := hide (below_next B5.out hb6)
        have hl5 := X5.out.lt
        obtain ⟨⟨t0, t1, t2⟩, t3, t4, t5⟩ := X5.out.below hb6
        clear hG6 hb6
        go_wp2_with fail
        exact bodyPost_ret (v := .agg #[.int .i64 0, .int .i64 2, .slice av6 O.length cv6]) (by simp [results, Tryz.results170, go_sem, t0, t1, t2]) rfl (by rw [HE1.out, HE2.out]; exact ResG.of hl5 (by omega) rfl G6.out B6.out)
      · obtain ⟨e1, e2⟩ := HV.out.2 h12
        have HE1 := hide e1
        have HE2 := hide e2
        have h12' : ¬ (12 : Int) < (FS.length : Int) := by omega
        have hl5 := X5.out.lt
        obtain ⟨⟨t0, t1, t2⟩, t3, t4, t5⟩ := X5.out
        clear e1 e2 h12
        go_wp2_with fail
        exact bodyPost_ret (v := .agg #[.int .i64 0, .int .i64 0, .slice (some ⟨g5, 0, none⟩) FS.length cv5]) (by simp [results, Tryz.results170, go_sem, t0, t1, t2]) rfl (by rw [HE1.out, HE2.out]; exact ResG.of (B := w.heap.size + 2) (by omega) (by omega) rfl G5.out B5.out)
end Go.Proofs.YtolnlfnndnpiiaaGreat

namespace Go.Proofs.YtolnlfnndnpiiaaGreat
set_option linter.unusedVariables false

theorem mal_zero {ls : List (List En)} (h : malC ls = 0) : layersP ls = 0 ∧ malL ls = allE ls ∧ (allE ls).length ≤ 40 := by
  by_cases hz : layersP ls = 0
  · refine ⟨hz, by rw [malL, if_pos h], ?_⟩
    unfold malC at h
    rw [if_pos hz] at h
    cases hm : malOK ls
    · rw [hm] at h; cases h
    · have := (List.all_eq_true.1 hm) ls.length (List.mem_range.2 (by omega))
      rw [List.take_length] at this
      exact of_decide_eq_true this
  · rw [(mal_bad hz).1] at h; exact absurd h hz
end Go.Proofs.YtolnlfnndnpiiaaGreat

namespace Go.Proofs.YtolnlfnndnpiiaaGreat
open Go.RowKit Go.Maps
set_option linter.unusedVariables false
attribute [local go_sem ↓] Go.wp_at_zero Go.wp_at_succ

theorem ret_intM {a b : Int} (h : a = b) : Ending.returned (.int .i64 a) = .returned (.int .i64 b) := by rw [h]
theorem saw_none {ls : List (List En)} {p : Bs} (h4 : ls.length ≤ 4) (hR : ∀ es ∈ ls, Right es) (hp : faultP p = 0) (h : findE (allE ls) p = none) : seenL ls p = none := by
  rw [all_find (rights_fit hR) h4 hp, sawE] at h
  cases hs : seenL ls p with
  | none => rfl
  | some i =>
    obtain ⟨-, e, he, -⟩ := seen_some (show seenG (seeL ls) p 4 = some i from hs)
    rw [hs] at h
    simp [he] at h
theorem saw_some {ls : List (List En)} {p : Bs} {e : En} (h4 : ls.length ≤ 4) (hR : ∀ es ∈ ls, Right es) (hp : faultP p = 0) (h : findE (allE ls) p = some e) : ∃ i f, seenL ls p = some i ∧ seeL ls i p = some f ∧ asT f = e := by
  rw [all_find (rights_fit hR) h4 hp, sawE] at h
  cases hs : seenL ls p with
  | none => rw [hs] at h; cases h
  | some i =>
    obtain ⟨-, f, hf, -⟩ := seen_some (show seenG (seeL ls) p 4 = some i from hs)
    rw [hs] at h
    simp [hf] at h
    exact ⟨i, f, rfl, hf, h⟩
theorem l8Look_no (a : Option Addr) (c n : Nat) (ls : List (List En)) (p : Bs) (w : World) (h : RdL w a ls) (hn : n = ls.length) (h4 : ls.length ≤ 4) (hR : ∀ es ∈ ls, Right es) (hp : faultP p = 0) (hpl : p.length ≤ 1048576) (hs : findE (allE ls) p = none) :
    Calls Tryz.prog 169 #[.slice a n c, .string (str p)] w (LookNo w) := l8Look_none a c n ls p w h hn h4 hR hp hpl (saw_none h4 hR hp hs)
theorem l8Look_yes (a : Option Addr) (c n : Nat) (ls : List (List En)) (p : Bs) (w : World) (h : RdL w a ls) (hn : n = ls.length) (h4 : ls.length ≤ 4) (hR : ∀ es ∈ ls, Right es) (hp : faultP p = 0) (hpl : p.length ≤ 1048576) (e : En) (hs : findE (allE ls) p = some e) :
    Calls Tryz.prog 169 #[.slice a n c, .string (str p)] w (LookYes e w) := by
  obtain ⟨i, f, h1, h2, h3⟩ := saw_some h4 hR hp hs
  have := l8Look_some a c n ls p w h hn h4 hR hp hpl i f h1 h2
  rwa [h3] at this
set_option maxRecDepth 100000 in
set_option maxHeartbeats 3200000 in
theorem l9Home_any (a : Option Addr) (c n : Nat) (ls : List (List En)) (p : Bs) (w : World) (h : RdL w a ls) (hn : n = ls.length) (h4 : ls.length ≤ 4) (hR : ∀ es ∈ ls, Right es) (hp : faultP p = 0) (hpl : p.length ≤ 1048576) :
    Calls Tryz.prog 167 #[.slice a n c, .string (str p)] w fun r w' => r = .returned (.int .i64 (homeC (allE ls) p)) ∧ Below w.heap.size w w' := by
  subst hn
  have hsz := str_size p
  have h1 : 1 ≤ (str p).size := faultP_pos (by rw [str_data]; exact hp)
  have HP := hide (show (aboveN (cutB (str p).data.toList.tail)).getLastD [] = parentP p from by rw [str_data]; rfl)
  by_cases hq : parentP p = []
  · have HE := hide (homeC_top (es := allE ls) hq)
    have hs := (str_empty (parentP p)).trans (decide_eq_true hq)
    clear hq h hR
    generalize homeC (allE ls) p = HC at *
    go_enter Tryz.func167, Tryz.ntmps167
    go_wp2_with fail
    refine (l3Parent_any _ _ (by omega) (by omega)).mono ?_
    rintro r w1 ⟨rfl, hb⟩
    rw [HP.out]
    have HB := hide hb
    clear hb
    go_wp2_with fail
    go_ret
    exact ⟨ret_intM HE.out.symm, HB.out⟩
  · have hs := (str_empty (parentP p)).trans (decide_eq_false hq)
    obtain ⟨hqp, hqb⟩ := parent_above hp hq
    have hql : (parentP p).length ≤ 1048576 := by have := below_len hqb; omega
    cases ha : findE (allE ls) (parentP p) with
    | none =>
      have HE := hide (homeC_none hq ha)
      have HLK := hide (fun u (hu : Below w.heap.size w u) => l8Look_no a c ls.length ls (parentP p) u (h.below hu) rfl h4 hR hqp hql ha)
      clear hq ha h hR hqp hqb
      generalize homeC (allE ls) p = HC at *
      generalize parentP p = PT at *
      go_enter Tryz.func167, Tryz.ntmps167
      go_wp2_with fail
      refine (l3Parent_any _ _ (by omega) (by omega)).mono ?_
      rintro r w1 ⟨rfl, hb⟩
      rw [HP.out]
      have HB := hide hb
      clear hb
      go_wp2_with fail
      refine (HLK.out w1 HB.out).mono ?_
      rintro r w2 ⟨rfl, hb2⟩
      have B2 := hide (below_next HB.out (below_next hb2 (below_alloc w2 (.cells #[.string ⟨#[]⟩, .int .i64 0, .int .i64 0, .slice none 0 0] 50))))
      clear hb2
      go_wp2_with fail
      go_ret
      exact ⟨ret_intM HE.out.symm, B2.out⟩
    | some e =>
      have HE : Hid (homeC (allE ls) p = if e.kind = 1 then 9 else 0) := hide (by simp [homeC, hq, ha])
      have HLK := hide (fun u (hu : Below w.heap.size w u) => l8Look_yes a c ls.length ls (parentP p) u (h.below hu) rfl h4 hR hqp hql e ha)
      clear hq ha h hR hqp hqb
      generalize homeC (allE ls) p = HC at *
      generalize parentP p = PT at *
      have HD := hide (Decidable.em (e.kind = 1))
      go_enter Tryz.func167, Tryz.ntmps167
      go_wp2_with fail
      refine (l3Parent_any _ _ (by omega) (by omega)).mono ?_
      rintro r w1 ⟨rfl, hb⟩
      rw [HP.out]
      have HB := hide hb
      clear hb
      go_wp2_with fail
      refine (HLK.out w1 HB.out).mono ?_
      rintro r w2 ⟨x, xc, rfl, -, hb2⟩
      have B2 := hide (below_next HB.out (below_next hb2 (below_alloc w2 (.cells #[.string (str e.path), .int .i64 e.kind, .int .i64 e.size, .slice x e.chunks.length xc] 50))))
      obtain ⟨f0, f1, f2, f3⟩ := Four.new w2 (.string (str e.path)) (.int .i64 e.kind) (.int .i64 e.size) (.slice x e.chunks.length xc) 50
      clear hb2
      by_cases hk : e.kind = 1
      · have HE2 := hide (show HC = 9 by rw [HE.out, if_pos hk])
        have hk2 : (e.kind == 1) = true := by simpa using hk
        clear hk
        go_wp2_with fail
        go_ret
        exact ⟨ret_intM HE2.out.symm, B2.out⟩
      · have HE2 := hide (show HC = 0 by rw [HE.out, if_neg hk])
        have hk2 : (e.kind == 1) = false := by simpa using hk
        clear hk
        go_wp2_with fail
        go_ret
        exact ⟨ret_intM HE2.out.symm, B2.out⟩
end Go.Proofs.YtolnlfnndnpiiaaGreat

namespace Go.Proofs.YtolnlfnndnpiiaaGreat
open Go.RowKit Go.Maps
set_option linter.unusedVariables false
attribute [local go_sem ↓] Go.wp_at_zero Go.wp_at_succ

def FillsO (O U : List En) (e : En) (rep : Int) (V : List En) : Prop := (12 < (fillS U e).length → rep = 2 ∧ V = O) ∧ (¬ 12 < (fillS U e).length → rep = 0 ∧ V = fillS U e)
theorem fills_ex (O U : List En) (e : En) : ∃ rep V, FillsO O U e rep V := by
  by_cases h : 12 < (fillS U e).length
  · exact ⟨2, O, fun _ => ⟨rfl, rfl⟩, fun h2 => absurd h h2⟩
  · exact ⟨0, fillS U e, fun h2 => absurd h2 h, fun _ => ⟨rfl, rfl⟩⟩
def wrS (T : List En) (p : Bs) : Int := if homeC T p = 0 then (match findE T p with | some e => if e.kind = 2 then 9 else 0 | none => 0) else homeC T p
structure WrS (T U : List En) (p : Bs) (e : En) (rep : Int) (V : List En) : Prop where
  no : wrS T p ≠ 0 → rep = wrS T p ∧ V = U
  yes : wrS T p = 0 → FillsO U U e rep V
theorem WrS.stay {T U : List En} {p : Bs} {e : En} {q : Int} (h : wrS T p = q) (hq : q ≠ 0) : WrS T U p e q U := ⟨fun _ => ⟨h.symm, rfl⟩, fun h2 => absurd (h.symm.trans h2) hq⟩
theorem WrS.fill {T U : List En} {p : Bs} {e : En} {rep : Int} {V : List En} (h : wrS T p = 0) (hf : FillsO U U e rep V) : WrS T U p e rep V := ⟨fun h2 => absurd h h2, fun _ => hf⟩
def mkS (T : List En) (p : Bs) : Int := if homeC T p = 0 then (if (findE T p).isSome then 7 else 0) else homeC T p
def dirF (U : List En) (p : Bs) : En := ⟨p, (match findE U p with | some x => if x.kind = 3 then 4 else 2 | none => 2), 0, []⟩
structure MkS (T U : List En) (p : Bs) (rep : Int) (V : List En) : Prop where
  no : mkS T p ≠ 0 → rep = mkS T p ∧ V = U
  yes : mkS T p = 0 → FillsO U U (dirF U p) rep V
theorem MkS.stay {T U : List En} {p : Bs} {q : Int} (h : mkS T p = q) (hq : q ≠ 0) : MkS T U p q U := ⟨fun _ => ⟨h.symm, rfl⟩, fun h2 => absurd (h.symm.trans h2) hq⟩
theorem MkS.fill {T U : List En} {p : Bs} {rep : Int} {V : List En} (h : mkS T p = 0) (hf : FillsO U U (dirF U p) rep V) : MkS T U p rep V := ⟨fun h2 => absurd h h2, fun _ => hf⟩
set_option maxRecDepth 100000 in
set_option maxHeartbeats 6400000 in
theorem l9Write_any (a : Option Addr) (c n : Nat) (ls : List (List En)) (u : Option Addr) (uc m : Nat) (U : List En) (p : Bs) (zs : List Int) (d : Option Addr) (dc : Nat) (w : World) (h : RdL w a ls) (hn : n = ls.length) (hU : RdE w u U) (hm : m = U.length) (h4 : (ls ++ [U]).length ≤ 4) (hR : ∀ es ∈ ls ++ [U], Right es) (hp : faultP p = 0) (hpl : p.length ≤ 1048576) (hd : Reads .u8 w d zs) (hu8 : U8 zs) (hdc : zs.length ≤ dc) (hdl : zs.length ≤ 24) :
    Calls Tryz.prog 121 #[.slice a n c, .slice u m uc, .string (str p), .slice d zs.length dc] w fun r w' => ∃ rep V, WrS (allE (ls ++ [U])) U p (fileE p zs) rep V ∧ ResG 0 rep V w r w' := by
  subst hn
  subst hm
  have hRU : Right U := hR U (by simp)
  have hl4 : ls.length ≤ 4 := by rw [List.length_append] at h4; omega
  have hUl := hRU.len
  have HUs := hide (right_small hRU)
  have HP := hide hp
  have X0 := hide (Box3.new w (.int .i64 0) (.int .i64 0) (.slice none 0 0) 64)
  have B0 := hide (below_alloc w (.cells #[.int .i64 0, .int .i64 0, .slice none 0 0] 64))
  have HA := hide (l9All_any a c ls.length ls u uc U.length U _ (h.below B0.out) rfl (by omega) (hU.below B0.out) rfl)
  have HU := hide hU
  have HST := hide (fun (q : Int) v (hv : Below w.heap.size w v) => l9Reply_any u uc U.length U q v (HU.out.below hv) rfl (by omega) HUs.out)
  have HRR := hide hR
  have H4 := hide h4
  have HD := hide hd
  have HU8 := hide hu8
  clear hd hu8
  clear h hU hR hRU hp h4
  obtain ⟨al, hal⟩ : ∃ al, al = ls ++ [U] := ⟨_, rfl⟩
  rw [← hal] at HA HRR H4 ⊢
  have HALL := hide hal
  clear hal
  by_cases hh : homeC (allE al) p = 0
  · cases ha : findE (allE al) p with
    | none =>
      have HC := hide (show wrS (allE al) p = 0 by simp [wrS, hh, ha])
      have HFI := hide (fun v (hv : Below w.heap.size w v) => l4File_any p d dc zs v (HD.out.below hv) HU8.out hdc hdl)
      obtain ⟨rep, V, hV⟩ := fills_ex U U (fileE p zs)
      have HV := hide hV
      clear hV
      go_enter Tryz.func121, Tryz.ntmps121
      go_wp2_with fail
      refine HA.out.mono ?_
      rintro r w1 ⟨av, cv, rfl, hr1, hb1⟩
      have X1 := hide (X0.out.below hb1)
      have B1 := hide (below_next B0.out hb1)
      have R1 := hide hr1
      have hlt := X1.out.lt
      clear hr1 hb1 HA X0 B0
      have HHM := hide (l9Home_any av cv _ _ p w1 R1.out rfl H4.out HRR.out HP.out hpl)
      rw [hh] at HHM
      clear hh
      go_wp2_with fail
      refine HHM.out.mono ?_
      rintro r w2 ⟨rfl, hb2⟩
      have X2 := hide (X1.out.below hb2)
      have B2 := hide (below_next B1.out hb2)
      have R2 := hide (R1.out.below hb2)
      clear hb2 HHM X1 B1 R1
      have HLK := hide (l8Look_no av cv _ _ p w2 R2.out rfl H4.out HRR.out HP.out hpl ha)
      clear ha
      go_wp2_with fail
      refine HLK.out.mono ?_
      rintro r w3 ⟨rfl, hb3⟩
      have A3 := hide (below_alloc w3 (.cells #[.string ⟨#[]⟩, .int .i64 0, .int .i64 0, .slice none 0 0] 50))
      have B3 := hide (below_next B2.out (below_next hb3 A3.out))
      have X3 := hide (X2.out.below (below_next hb3 A3.out))
      have R3 := hide (R2.out.below (below_next hb3 A3.out))
      obtain ⟨f0, f1, f2, f3⟩ := Four.new w3 (.string ⟨#[]⟩) (.int .i64 0) (.int .i64 0) (.slice none 0 0) 50
      clear hb3 A3 HLK X2 B2 R2
      go_wp2_with fail
      clear f0 f1 f2 f3
      generalize w3.alloc (.cells #[.string ⟨#[]⟩, .int .i64 0, .int .i64 0, .slice none 0 0] 50) = W3 at *
      refine (HFI.out W3 B3.out).mono ?_
      rintro r w4 ⟨yv, yc, rfl, hO4, hb4⟩
      have B4 := hide (below_next B3.out hb4)
      have X4 := hide (X3.out.below hb4)
      have HFL := hide (l9Fill_any u uc U.length U u uc U.length U (fileE p zs) yv (cut zs).length yc w4 (HU.out.below B4.out) rfl (by omega) HUs.out (HU.out.below B4.out) rfl (by omega) HUs.out HP.out (digs_len zs).symm (ownInts_reads hO4 (digs_len zs).symm) hpl (by show (digs zs (cut zs).length).length ≤ 1048576; rw [digs_len, cut_length]; omega) rep V HV.out)
      rw [show (fileE p zs).path = p from rfl, show (fileE p zs).kind = 1 from rfl, show (fileE p zs).size = zs.length from rfl] at HFL
      clear hO4 hb4 X3 B3
      go_wp2_with fail
      refine HFL.out.mono ?_
      rintro r w9 ⟨av9, cv9, rfl, hG9, hb9⟩
      have G9 := hide hG9
      have B9 := hide (below_next B4.out hb9)
      have hl9 := X4.out.lt
      obtain ⟨⟨t0, t1, t2⟩, t3, t4, t5⟩ := X4.out.below hb9
      clear hG9 hb9
      go_wp2_with fail
      exact bodyPost_ret (v := .agg #[.int .i64 0, .int .i64 rep, .slice av9 V.length cv9]) (by simp [results, Tryz.results121, go_sem, t0, t1, t2]) rfl ⟨rep, V, WrS.fill HC.out HV.out, ResG.of hl9 (Nat.le_refl _) rfl G9.out B9.out⟩
    | some e =>
      by_cases hk : e.kind = 2
      · have HC := hide (show wrS (allE al) p = 9 by simp [wrS, hh, ha, hk])
        have hk2 : (e.kind == 2) = true := by simpa using hk
        clear hk
        go_enter Tryz.func121, Tryz.ntmps121
        go_wp2_with fail
        refine HA.out.mono ?_
        rintro r w1 ⟨av, cv, rfl, hr1, hb1⟩
        have X1 := hide (X0.out.below hb1)
        have B1 := hide (below_next B0.out hb1)
        have R1 := hide hr1
        have hlt := X1.out.lt
        clear hr1 hb1 HA X0 B0
        have HHM := hide (l9Home_any av cv _ _ p w1 R1.out rfl H4.out HRR.out HP.out hpl)
        rw [hh] at HHM
        clear hh
        go_wp2_with fail
        refine HHM.out.mono ?_
        rintro r w2 ⟨rfl, hb2⟩
        have X2 := hide (X1.out.below hb2)
        have B2 := hide (below_next B1.out hb2)
        have R2 := hide (R1.out.below hb2)
        clear hb2 HHM X1 B1 R1
        have HLK := hide (l8Look_yes av cv _ _ p w2 R2.out rfl H4.out HRR.out HP.out hpl e ha)
        clear ha
        go_wp2_with fail
        refine HLK.out.mono ?_
        rintro r w3 ⟨x, xc, rfl, -, hb3⟩
        have A3 := hide (below_alloc w3 (.cells #[.string (str e.path), .int .i64 e.kind, .int .i64 e.size, .slice x e.chunks.length xc] 50))
        have B3 := hide (below_next B2.out (below_next hb3 A3.out))
        have X3 := hide (X2.out.below (below_next hb3 A3.out))
        have R3 := hide (R2.out.below (below_next hb3 A3.out))
        obtain ⟨f0, f1, f2, f3⟩ := Four.new w3 (.string (str e.path)) (.int .i64 e.kind) (.int .i64 e.size) (.slice x e.chunks.length xc) 50
        clear hb3 A3 HLK X2 B2 R2
        go_wp2_with fail
        clear f0 f1 f2 f3
        generalize w3.alloc (.cells #[.string (str e.path), .int .i64 e.kind, .int .i64 e.size, .slice x e.chunks.length xc] 50) = W3 at *
        refine (HST.out 9 W3 B3.out).mono ?_
        rintro r w9 ⟨av9, cv9, rfl, hG9, hb9⟩
        have G9 := hide hG9
        have B9 := hide (below_next B3.out hb9)
        have hl9 := X3.out.lt
        obtain ⟨⟨t0, t1, t2⟩, t3, t4, t5⟩ := X3.out.below hb9
        clear hG9 hb9
        go_wp2_with fail
        exact bodyPost_ret (v := .agg #[.int .i64 0, .int .i64 9, .slice av9 U.length cv9]) (by simp [results, Tryz.results121, go_sem, t0, t1, t2]) rfl ⟨9, U, WrS.stay HC.out (by decide), ResG.of hl9 (Nat.le_refl _) rfl G9.out B9.out⟩
      · have HC := hide (show wrS (allE al) p = 0 by simp [wrS, hh, ha, hk])
        have hk2 : (e.kind == 2) = false := by simpa using hk
        clear hk
        have HFI := hide (fun v (hv : Below w.heap.size w v) => l4File_any p d dc zs v (HD.out.below hv) HU8.out hdc hdl)
        obtain ⟨rep, V, hV⟩ := fills_ex U U (fileE p zs)
        have HV := hide hV
        clear hV
        go_enter Tryz.func121, Tryz.ntmps121
        go_wp2_with fail
        refine HA.out.mono ?_
        rintro r w1 ⟨av, cv, rfl, hr1, hb1⟩
        have X1 := hide (X0.out.below hb1)
        have B1 := hide (below_next B0.out hb1)
        have R1 := hide hr1
        have hlt := X1.out.lt
        clear hr1 hb1 HA X0 B0
        have HHM := hide (l9Home_any av cv _ _ p w1 R1.out rfl H4.out HRR.out HP.out hpl)
        rw [hh] at HHM
        clear hh
        go_wp2_with fail
        refine HHM.out.mono ?_
        rintro r w2 ⟨rfl, hb2⟩
        have X2 := hide (X1.out.below hb2)
        have B2 := hide (below_next B1.out hb2)
        have R2 := hide (R1.out.below hb2)
        clear hb2 HHM X1 B1 R1
        have HLK := hide (l8Look_yes av cv _ _ p w2 R2.out rfl H4.out HRR.out HP.out hpl e ha)
        clear ha
        go_wp2_with fail
        refine HLK.out.mono ?_
        rintro r w3 ⟨x, xc, rfl, -, hb3⟩
        have A3 := hide (below_alloc w3 (.cells #[.string (str e.path), .int .i64 e.kind, .int .i64 e.size, .slice x e.chunks.length xc] 50))
        have B3 := hide (below_next B2.out (below_next hb3 A3.out))
        have X3 := hide (X2.out.below (below_next hb3 A3.out))
        have R3 := hide (R2.out.below (below_next hb3 A3.out))
        obtain ⟨f0, f1, f2, f3⟩ := Four.new w3 (.string (str e.path)) (.int .i64 e.kind) (.int .i64 e.size) (.slice x e.chunks.length xc) 50
        clear hb3 A3 HLK X2 B2 R2
        go_wp2_with fail
        clear f0 f1 f2 f3
        generalize w3.alloc (.cells #[.string (str e.path), .int .i64 e.kind, .int .i64 e.size, .slice x e.chunks.length xc] 50) = W3 at *
        refine (HFI.out W3 B3.out).mono ?_
        rintro r w4 ⟨yv, yc, rfl, hO4, hb4⟩
        have B4 := hide (below_next B3.out hb4)
        have X4 := hide (X3.out.below hb4)
        have HFL := hide (l9Fill_any u uc U.length U u uc U.length U (fileE p zs) yv (cut zs).length yc w4 (HU.out.below B4.out) rfl (by omega) HUs.out (HU.out.below B4.out) rfl (by omega) HUs.out HP.out (digs_len zs).symm (ownInts_reads hO4 (digs_len zs).symm) hpl (by show (digs zs (cut zs).length).length ≤ 1048576; rw [digs_len, cut_length]; omega) rep V HV.out)
        rw [show (fileE p zs).path = p from rfl, show (fileE p zs).kind = 1 from rfl, show (fileE p zs).size = zs.length from rfl] at HFL
        clear hO4 hb4 X3 B3
        go_wp2_with fail
        refine HFL.out.mono ?_
        rintro r w9 ⟨av9, cv9, rfl, hG9, hb9⟩
        have G9 := hide hG9
        have B9 := hide (below_next B4.out hb9)
        have hl9 := X4.out.lt
        obtain ⟨⟨t0, t1, t2⟩, t3, t4, t5⟩ := X4.out.below hb9
        clear hG9 hb9
        go_wp2_with fail
        exact bodyPost_ret (v := .agg #[.int .i64 0, .int .i64 rep, .slice av9 V.length cv9]) (by simp [results, Tryz.results121, go_sem, t0, t1, t2]) rfl ⟨rep, V, WrS.fill HC.out HV.out, ResG.of hl9 (Nat.le_refl _) rfl G9.out B9.out⟩
  · have HC := hide (show wrS (allE al) p = homeC (allE al) p by simp [wrS, hh])
    have HH0 := hide hh
    obtain ⟨F, hF⟩ : ∃ F, F = homeC (allE al) p := ⟨_, rfl⟩
    rw [← hF] at HC HH0
    have HFE := hide hF
    have hz2 : (F != 0) = true := by simp; exact HH0.out
    clear hh hF
    go_enter Tryz.func121, Tryz.ntmps121
    go_wp2_with fail
    refine HA.out.mono ?_
    rintro r w1 ⟨av, cv, rfl, hr1, hb1⟩
    have X1 := hide (X0.out.below hb1)
    have B1 := hide (below_next B0.out hb1)
    have R1 := hide hr1
    have hlt := X1.out.lt
    clear hr1 hb1 HA X0 B0
    have HHM := hide (l9Home_any av cv _ _ p w1 R1.out rfl H4.out HRR.out HP.out hpl)
    rw [← HFE.out] at HHM
    go_wp2_with fail
    refine HHM.out.mono ?_
    rintro r w2 ⟨rfl, hb2⟩
    have X2 := hide (X1.out.below hb2)
    have B2 := hide (below_next B1.out hb2)
    have R2 := hide (R1.out.below hb2)
    clear hb2 HHM X1 B1 R1
    go_wp2_with fail
    refine (HST.out F w2 B2.out).mono ?_
    rintro r w9 ⟨av9, cv9, rfl, hG9, hb9⟩
    have G9 := hide hG9
    have B9 := hide (below_next B2.out hb9)
    have hl9 := X2.out.lt
    obtain ⟨⟨t0, t1, t2⟩, t3, t4, t5⟩ := X2.out.below hb9
    clear hG9 hb9
    go_wp2_with fail
    exact bodyPost_ret (v := .agg #[.int .i64 0, .int .i64 F, .slice av9 U.length cv9]) (by simp [results, Tryz.results121, go_sem, t0, t1, t2]) rfl ⟨F, U, WrS.stay HC.out HH0.out, ResG.of hl9 (Nat.le_refl _) rfl G9.out B9.out⟩
end Go.Proofs.YtolnlfnndnpiiaaGreat

