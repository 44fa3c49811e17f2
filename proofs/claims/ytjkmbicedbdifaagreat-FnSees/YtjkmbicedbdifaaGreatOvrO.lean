/-
  The model's l8Look: the entry of a path that is seen.
-/
import Derived.Test.YtjkmbicedbdifaaGreatOvrK
import Derived.Test.YtjkmbicedbdifaaGreatJ3
namespace Go.Proofs.YtjkmbicedbdifaaGreat
open Go.RowKit Go.Maps
set_option linter.unusedVariables false
attribute [local go_sem ↓] Go.wp_at_zero Go.wp_at_succ

/-- What l8Look answers where nothing is seen. -/
def LookNo (w : World) (r : Ending) (w' : World) : Prop :=
  r = .returned (.tuple #[.agg #[.string ⟨#[]⟩, .int .i64 0, .int .i64 0, .slice none 0 0], .bool false]) ∧ Below w.heap.size w w'
/-- What l8Look answers where an entry is seen: its chunks are its own. -/
def LookYes (e : En) (w : World) (r : Ending) (w' : World) : Prop :=
  ∃ x c, r = .returned (.tuple #[.agg #[.string (str e.path), .int .i64 e.kind, .int .i64 e.size, .slice x e.chunks.length c], .bool true]) ∧ w'.ownsRow w.heap.size 2 1 (.slice x e.chunks.length c) e.chunks.length (e.chunks.map (Value.int .i64)) ∧ Below w.heap.size w w'

/-- Four cells of a block, none of them frozen. -/
def Eight (w : World) (b : Nat) (u0 u1 u2 u3 : Value) : Prop := Four w b u0 u1 u2 u3 ∧ ∀ i, w.frozen? ⟨b, i, none⟩ = false
theorem Eight.new (w : World) (u0 u1 u2 u3 : Value) (t : TypeId) : Eight (w.alloc (.cells #[u0, u1, u2, u3] t)).drew w.heap.size u0 u1 u2 u3 :=
  ⟨(Four.new w u0 u1 u2 u3 t).below (Below.refl _ _).drew, fun i => ((Below.refl (w.alloc (.cells #[u0, u1, u2, u3] t)).heap.size _).drew.frozen (p := ⟨w.heap.size, i, none⟩) (by simp)).trans (by simp)⟩
theorem Eight.below {w w' : World} {b : Nat} {u0 u1 u2 u3 : Value} (h : Eight w b u0 u1 u2 u3) (hk : Below w.heap.size w w') : Eight w' b u0 u1 u2 u3 :=
  ⟨h.1.below hk, fun i => (hk.frozen (p := ⟨b, i, none⟩) h.1.lt).trans (h.2 i)⟩
theorem Eight.kept {S : Nat → Prop} {w w' : World} {b : Nat} {u0 u1 u2 u3 : Value} (h : Eight w b u0 u1 u2 u3) (hk : Kept S w w') (hn : ¬ S b) : Eight w' b u0 u1 u2 u3 :=
  ⟨⟨(hk.cell (p := ⟨b, 0, none⟩) h.1.lt hn).trans h.1.1, (hk.cell (p := ⟨b, 1, none⟩) h.1.lt hn).trans h.1.2.1, (hk.cell (p := ⟨b, 2, none⟩) h.1.lt hn).trans h.1.2.2.1, (hk.cell (p := ⟨b, 3, none⟩) h.1.lt hn).trans h.1.2.2.2⟩, fun i => (hk.frozen (p := ⟨b, i, none⟩) h.1.lt hn).trans (h.2 i)⟩
theorem Eight.set1 {w : World} {b : Nat} {u0 u1 u2 u3 : Value} (h : Eight w b u0 u1 u2 u3) (v : Value) : Eight (w.setCell ⟨b, 1, none⟩ v) b u0 v u2 u3 :=
  ⟨⟨by rw [cell_set_other (by simp)]; exact h.1.1, cell_set_same h.1.2.1, by rw [cell_set_other (by simp)]; exact h.1.2.2.1, by rw [cell_set_other (by simp)]; exact h.1.2.2.2⟩, fun i => by rw [World.frozen?_setCell]; exact h.2 i⟩

set_option maxRecDepth 100000 in
set_option maxHeartbeats 3200000 in
theorem l8Look_none (a : Option Addr) (c n : Nat) (ls : List (List En)) (p : Bs) (w : World) (h : RdL w a ls) (hn : n = ls.length) (h4 : ls.length ≤ 4) (hR : ∀ es ∈ ls, Right es) (hp : faultP p = 0) (hpl : p.length ≤ 1048576) (hs : seenL ls p = none) :
    Calls Tryz.prog 89 #[.slice a n c, .string (str p)] w (LookNo w) := by
  subst hn
  have X0 := hide (Four.new w (.string ⟨#[]⟩) (.int .i64 0) (.int .i64 0) (.slice none 0 0) 40)
  have B0 := hide (below_alloc w (.cells #[.string ⟨#[]⟩, .int .i64 0, .int .i64 0, .slice none 0 0] 40))
  have HPL := hide (l8Place_any a c ls.length ls p _ (h.below B0.out) rfl h4 hR hp hpl)
  rw [hs, show placeI none = -1 from rfl] at HPL
  have f0 : ∀ i, (w.alloc (.cells #[.string ⟨#[]⟩, .int .i64 0, .int .i64 0, .slice none 0 0] 40)).frozen? ⟨w.heap.size, i, none⟩ = false := fun i => by simp
  clear h hR hs
  go_enter Tryz.func89, Tryz.ntmps89
  go_wp2_with fail
  refine HPL.out.mono ?_
  rintro r w1 ⟨rfl, hb1⟩
  have B1 := hide (below_next B0.out hb1)
  obtain ⟨t0, t1, t2, t3⟩ := X0.out.below hb1
  have g0 := fun i => (hb1.frozen (p := ⟨w.heap.size, i, none⟩) X0.out.lt).trans (f0 i)
  have g1 := g0 0
  have g2 := g0 1
  have g3 := g0 2
  have g4 := g0 3
  clear hb1 g0 f0
  go_wp2_with fail
  refine bodyPost_ret (v := .tuple #[.agg #[.string ⟨#[]⟩, .int .i64 0, .int .i64 0, .slice none 0 0], .bool false]) (by simp [results, Tryz.results89, go_sem, t0, t1, t2, t3]) rfl ⟨rfl, ?_⟩
  exact (((B1.out.setCell (p := ⟨w.heap.size, 0, none⟩) (Nat.le_refl _) _).setCell (p := ⟨w.heap.size, 1, none⟩) (Nat.le_refl _) _).setCell (p := ⟨w.heap.size, 2, none⟩) (Nat.le_refl _) _).setCell (p := ⟨w.heap.size, 3, none⟩) (Nat.le_refl _) _
set_option maxRecDepth 100000 in
set_option maxHeartbeats 6400000 in
theorem l8Look_some (a : Option Addr) (c n : Nat) (ls : List (List En)) (p : Bs) (w : World) (h : RdL w a ls) (hn : n = ls.length) (h4 : ls.length ≤ 4) (hR : ∀ es ∈ ls, Right es) (hp : faultP p = 0) (hpl : p.length ≤ 1048576) (i : Nat) (e : En) (hs : seenL ls p = some i) (he : seeL ls i p = some e) :
    Calls Tryz.prog 89 #[.slice a n c, .string (str p)] w (LookYes (asT e) w) := by
  subst hn
  obtain ⟨i0, hi0, hz0, hz1, hz2⟩ := info_parts Tryz.infoI64
  have X0 := hide (Four.new w (.string ⟨#[]⟩) (.int .i64 0) (.int .i64 0) (.slice none 0 0) 40)
  have B0 := hide (below_alloc w (.cells #[.string ⟨#[]⟩, .int .i64 0, .int .i64 0, .slice none 0 0] 40))
  have HPL := hide (l8Place_any a c ls.length ls p _ (h.below B0.out) rfl h4 hR hp hpl)
  rw [hs, show placeI (some i) = (i : Int) from rfl] at HPL
  have f0 : ∀ i, (w.alloc (.cells #[.string ⟨#[]⟩, .int .i64 0, .int .i64 0, .slice none 0 0] 40)).frozen? ⟨w.heap.size, i, none⟩ = false := fun i => by simp
  have hil : i < ls.length := by
    have := seeL_mem he
    unfold seeL at he
    cases hh : ls[i]? with
    | none => rw [hh] at he; cases he
    | some y => exact (List.getElem?_eq_some_iff.1 hh).1
  obtain ⟨b, off, es, x, cc, rfl, hb, hes, c0, hr⟩ := h.at hil
  have hRi := hR es (List.mem_of_getElem? hes)
  have hel := hRi.len
  have hfe : findE es p = some e := by rw [← seeL_at hes]; exact he
  obtain ⟨q, hq⟩ : ∃ q, atE es p = some q := by
    cases ha : atE es p with
    | none => rw [find_at_none ha] at hfe; cases hfe
    | some q => exact ⟨q, rfl⟩
  obtain ⟨e', he', hfe'⟩ := find_at_some hq
  have : e' = e := Option.some.inj (hfe'.symm.trans hfe)
  subst this
  have hqlt := atE_lt hq
  obtain ⟨bb, off2, e2, y, yc, rfl, hbb, he2, z0, z1, z2, z3, hrc⟩ := hr.at hqlt
  have : e2 = e' := Option.some.inj (he2.symm.trans he')
  subst this
  have hsm := right_small hRi e2 (List.mem_of_getElem? he2)
  have hek := ent_kinds (hRi.ent e2 (List.mem_of_getElem? he2))
  have KS : Hid (∀ w', Below w.heap.size w w' → w'.cell? ⟨b, off + i, none⟩ = some (.slice (some ⟨bb, off2, none⟩) es.length cc) ∧ w'.cell? ⟨bb, off2 + q * 4, none⟩ = some (.string (str e2.path)) ∧ w'.cell? ⟨bb, off2 + q * 4 + 1, none⟩ = some (.int .i64 e2.kind) ∧ w'.cell? ⟨bb, off2 + q * 4 + 2, none⟩ = some (.int .i64 e2.size) ∧ w'.cell? ⟨bb, off2 + q * 4 + 3, none⟩ = some (.slice y e2.chunks.length yc)) := hide (fun w' hb' => ⟨(hb'.cell (p := ⟨b, off + i, none⟩) hb).trans c0, (hb'.cell (p := ⟨bb, off2 + q * 4, none⟩) hbb).trans z0, (hb'.cell (p := ⟨bb, off2 + q * 4 + 1, none⟩) hbb).trans z1, (hb'.cell (p := ⟨bb, off2 + q * 4 + 2, none⟩) hbb).trans z2, (hb'.cell (p := ⟨bb, off2 + q * 4 + 3, none⟩) hbb).trans z3⟩)
  have HAT : Hid (∀ w', Below w.heap.size w w' → Calls Tryz.prog 72 #[.slice (some ⟨bb, off2, none⟩) es.length cc, .string (str p)] w' fun r w2 => r = .returned (.int .i64 q) ∧ w2 = w') := hide (fun w' hb' => by have h1 := l4At_any (some ⟨bb, off2, none⟩) cc es.length es p w' (hr.below hb') rfl (by omega); rw [hq] at h1; exact h1)
  have HRC := hide hrc
  have hi1 : (0 : Int) ≤ (i : Int) := by omega
  have hi2 : (i : Int) < (ls.length : Int) := by omega
  have hi3 : ¬ (i : Int) < 0 := by omega
  have hq1 : (0 : Int) ≤ (q : Int) := by omega
  have hq2 : (q : Int) < (es.length : Int) := by omega
  clear h hR hs he hes c0 hr hRi hfe hq he' hfe' he2 z0 z1 z2 z3 hrc
  go_enter Tryz.func89, Tryz.ntmps89
  go_wp2_with fail
  refine HPL.out.mono ?_
  rintro r w1 ⟨rfl, hb1⟩
  have B1 := hide (below_next B0.out hb1)
  have X1 := hide (X0.out.below hb1)
  have FZ := hide (fun i => (hb1.frozen (p := ⟨w.heap.size, i, none⟩) X0.out.lt).trans (f0 i))
  clear hb1 f0 X0 HPL
  obtain ⟨s0, s1, s2, s3, s4⟩ := KS.out _ B1.out
  go_wp2_with fail
  go_region_held3 (fun w' => w'.cell? ⟨b, off + i, none⟩ = some (.slice (some ⟨bb, off2, none⟩) es.length cc) ∧ w'.cell? ⟨bb, off2 + q * 4, none⟩ = some (.string (str e2.path)) ∧ w'.cell? ⟨bb, off2 + q * 4 + 1, none⟩ = some (.int .i64 e2.kind) ∧ w'.cell? ⟨bb, off2 + q * 4 + 2, none⟩ = some (.int .i64 e2.size) ∧ w'.cell? ⟨bb, off2 + q * 4 + 3, none⟩ = some (.slice y e2.chunks.length yc)) (first | exact KS.out _ B1.out.drew | exact KS.out _ (below_next B1.out (below_alloc _ _)).drew | exact KS.out _ (below_next B1.out (below_alloc _ _)) | go_keep)
    ((go_at_call 72; refine (HAT.out _ (by first | exact B1.out.drew | exact (below_next B1.out (below_alloc _ _)).drew)).mono ?_; rintro r w9 ⟨rfl, hw9⟩; have hw8 := hw9.symm; clear hw9; subst hw8))
  all_goals
    have BD := hide (below_next B1.out (below_alloc w1 (.cells #[.string (str e2.path), .int .i64 e2.kind, .int .i64 e2.size, .slice y e2.chunks.length yc] 40))).drew
    have BE := hide ((below_alloc w1 (.cells #[.string (str e2.path), .int .i64 e2.kind, .int .i64 e2.size, .slice y e2.chunks.length yc] 40)).drew)
    have XE : Hid (Eight (w1.alloc (.cells #[.string (str e2.path), .int .i64 e2.kind, .int .i64 e2.size, .slice y e2.chunks.length yc] 40)).drew w1.heap.size (.string (str e2.path)) (.int .i64 e2.kind) (.int .i64 e2.size) (.slice y e2.chunks.length yc)) := hide (Eight.new w1 _ _ _ _ _)
    have XR : Hid (Eight (w1.alloc (.cells #[.string (str e2.path), .int .i64 e2.kind, .int .i64 e2.size, .slice y e2.chunks.length yc] 40)).drew w.heap.size (.string ⟨#[]⟩) (.int .i64 0) (.int .i64 0) (.slice none 0 0)) := hide (Eight.below (w := w1) ⟨X1.out, FZ.out⟩ BE.out)
    have hRE : w.heap.size < w1.heap.size := X1.out.lt
    have hEW : w1.heap.size < (w1.alloc (.cells #[.string (str e2.path), .int .i64 e2.kind, .int .i64 e2.size, .slice y e2.chunks.length yc] 40)).drew.heap.size := XE.out.1.lt
    clear X1 FZ s0 s1 s2 s3 s4 KS HAT BE B1 B0
    generalize (w1.alloc (.cells #[.string (str e2.path), .int .i64 e2.kind, .int .i64 e2.size, .slice y e2.chunks.length yc] 40)).drew = WD at *
    generalize w1.heap.size = be at *
    have hne : w.heap.size ≠ be := by omega
    have hne2 : be ≠ w.heap.size := by omega
    have hm0 : 0 + e2.chunks.length ≤ maxLen := by unfold maxLen; omega
    have hm0' : (0 + e2.chunks.length) * 8 ≤ 140737488355328 := by omega
    obtain ⟨⟨e0, e1, e3, e4⟩, ez⟩ := XE.out
    have ez1 := ez 1
    have ez3 := ez 3
    clear ez
    by_cases h4k : e2.kind = 4
    · have h4' : (e2.kind == 4) = true := by simpa using h4k
      have HAS := hide (show asT e2 = ⟨e2.path, 2, e2.size, e2.chunks⟩ from by unfold asT; rw [if_pos h4k]; rfl)
      clear h4k
      have XE5 := hide (XE.out.set1 (.int .i64 2))
      have XR5 := hide (XR.out.kept (Kept.setCell (S := fun b => b = be) (p := ⟨be, 1, none⟩) (Kept.refl _ WD) (fun _ => rfl) (.int .i64 2)) hne)
      have BW5 := hide (BD.out.setCell (p := ⟨be, 1, none⟩) (by show w.heap.size ≤ be; omega) (.int .i64 2))
      have hz5 : (WD.setCell ⟨be, 1, none⟩ (.int .i64 2)).heap.size = WD.heap.size := by simp [World.setCell]
      have OWN0 : Hid (((WD.setCell ⟨be, 1, none⟩ (.int .i64 2)).alloc (.cells #[] 2)).ownsRow WD.heap.size 2 1 (.slice (some ⟨WD.heap.size, 0, none⟩) 0 0) 0 (([] : List Int).map (Value.int .i64))) := hide (by have h := World.ownsRow_made (base := (WD.setCell ⟨be, 1, none⟩ (.int .i64 2)).heap.size) (e := 2) (size := 1) (WD.setCell ⟨be, 1, none⟩ (.int .i64 2)) #[] 0 (Nat.le_refl _) (Nat.zero_le _) rfl; rw [hz5] at h; exact h)
      have RD0 : Hid (Reads .i64 ((WD.setCell ⟨be, 1, none⟩ (.int .i64 2)).alloc (.cells #[] 2)) y e2.chunks) := hide (HRC.out.below (below_next BW5.out (below_alloc _ _)))
      have XEA := hide (XE5.out.below (below_alloc (WD.setCell ⟨be, 1, none⟩ (.int .i64 2)) (.cells #[] 2)))
      have XRA := hide (XR5.out.below (below_alloc (WD.setCell ⟨be, 1, none⟩ (.int .i64 2)) (.cells #[] 2)))
      have hlE : be < WD.heap.size := XE.out.1.lt
      have hlR : w.heap.size < WD.heap.size := XR.out.1.lt
      have KK : Hid (∀ W6 : World, Kept (fun b => b = WD.heap.size) ((WD.setCell ⟨be, 1, none⟩ (.int .i64 2)).alloc (.cells #[] 2)) W6 → Eight W6 be (.string (str e2.path)) (.int .i64 2) (.int .i64 e2.size) (.slice y e2.chunks.length yc) ∧ Eight W6 w.heap.size (.string ⟨#[]⟩) (.int .i64 0) (.int .i64 0) (.slice none 0 0)) := hide (fun W6 hk => ⟨XEA.out.kept hk (by omega), XRA.out.kept hk (by omega)⟩)
      clear XEA XRA
      go_wp2_with (at_builtin; refine wpList_append_take rfl (.tmp 30) (.tmp 32) 38 rfl WD.heap.size 2 i0 .i64 8 Tryz.underlying38 hi0 hz0 hz1 hz2 WD.heap.size 0 0 [] rfl OWN0.out y e2.chunks.length yc e2.chunks rfl rfl RD0.out e2.chunks.length (by simp) hm0 hm0' (by simp) ?_; intro av cv w6 hown6 hk6; obtain ⟨⟨⟨p0, p1, p2, p3⟩, pz⟩, ⟨⟨r0, r1, r2, r3⟩, rz⟩⟩ := KK.out _ hk6; have pz3 := pz 3; have rz0 := rz 0; have rz1 := rz 1; have rz2 := rz 2; have rz3 := rz 3; have O6 := hide hown6; have K6 := hide hk6; clear pz rz hown6 hk6)
      have BB6 := hide ((below_next BW5.out (below_alloc (WD.setCell ⟨be, 1, none⟩ (.int .i64 2)) (.cells #[] 2))).trans (K6.out.below (B := w.heap.size) (by have := (below_next BW5.out (below_alloc (WD.setCell ⟨be, 1, none⟩ (.int .i64 2)) (.cells #[] 2))).size; omega) (fun k hk hS => by omega)))
      rw [HAS.out]
      refine bodyPost_ret (v := .tuple #[.agg #[.string (str e2.path), .int .i64 2, .int .i64 e2.size, .slice av e2.chunks.length cv], .bool true]) (by simp [results, Tryz.results89, go_sem, r0, r1, r2, r3]) rfl ⟨av, cv, rfl, ?_, ?_⟩
      · refine ownsRow_mono (base := WD.heap.size) ?_ (by omega)
        refine ownsRow_kept (S := fun b => b = be ∨ b = w.heap.size) (by simpa using O6.out) ?_ (fun b hb hS => by have := (O6.out.lt b hb).1; omega)
        exact Kept.setCell (S := fun b => b = be ∨ b = w.heap.size) (p := ⟨w.heap.size, 3, none⟩) (Kept.setCell (S := fun b => b = be ∨ b = w.heap.size) (p := ⟨w.heap.size, 2, none⟩) (Kept.setCell (S := fun b => b = be ∨ b = w.heap.size) (p := ⟨w.heap.size, 1, none⟩) (Kept.setCell (S := fun b => b = be ∨ b = w.heap.size) (p := ⟨w.heap.size, 0, none⟩) (Kept.setCell (S := fun b => b = be ∨ b = w.heap.size) (p := ⟨be, 3, none⟩) (Kept.refl _ _) (fun _ => .inl rfl) _) (fun _ => .inr rfl) _) (fun _ => .inr rfl) _) (fun _ => .inr rfl) _) (fun _ => .inr rfl) _
      · exact ((((BB6.out.setCell (p := ⟨be, 3, none⟩) (by show w.heap.size ≤ be; omega) _).setCell (p := ⟨w.heap.size, 0, none⟩) (Nat.le_refl _) _).setCell (p := ⟨w.heap.size, 1, none⟩) (Nat.le_refl _) _).setCell (p := ⟨w.heap.size, 2, none⟩) (Nat.le_refl _) _).setCell (p := ⟨w.heap.size, 3, none⟩) (Nat.le_refl _) _
    · have h4' : (e2.kind == 4) = false := by simpa using h4k
      have HAS := hide (show asT e2 = ⟨e2.path, e2.kind, e2.size, e2.chunks⟩ from by unfold asT; rw [if_neg h4k])
      clear h4k
      have XE5 := XE
      have XR5 := XR
      have BW5 := BD
      have OWN0 : Hid ((WD.alloc (.cells #[] 2)).ownsRow WD.heap.size 2 1 (.slice (some ⟨WD.heap.size, 0, none⟩) 0 0) 0 (([] : List Int).map (Value.int .i64))) := hide (World.ownsRow_made (base := WD.heap.size) (e := 2) (size := 1) WD #[] 0 (Nat.le_refl _) (Nat.zero_le _) rfl)
      have RD0 : Hid (Reads .i64 (WD.alloc (.cells #[] 2)) y e2.chunks) := hide (HRC.out.below (below_next BW5.out (below_alloc _ _)))
      have XEA := hide (XE5.out.below (below_alloc WD (.cells #[] 2)))
      have XRA := hide (XR5.out.below (below_alloc WD (.cells #[] 2)))
      have hlE := XE5.out.1.lt
      have hlR := XR5.out.1.lt
      have KK : Hid (∀ W6 : World, Kept (fun b => b = WD.heap.size) (WD.alloc (.cells #[] 2)) W6 → Eight W6 be (.string (str e2.path)) (.int .i64 e2.kind) (.int .i64 e2.size) (.slice y e2.chunks.length yc) ∧ Eight W6 w.heap.size (.string ⟨#[]⟩) (.int .i64 0) (.int .i64 0) (.slice none 0 0)) := hide (fun W6 hk => ⟨XEA.out.kept hk (by omega), XRA.out.kept hk (by omega)⟩)
      clear XEA XRA
      go_wp2_with (at_builtin; refine wpList_append_take rfl (.tmp 30) (.tmp 32) 38 rfl WD.heap.size 2 i0 .i64 8 Tryz.underlying38 hi0 hz0 hz1 hz2 WD.heap.size 0 0 [] rfl OWN0.out y e2.chunks.length yc e2.chunks rfl rfl RD0.out e2.chunks.length (by simp) hm0 hm0' (by simp) ?_; intro av cv w6 hown6 hk6; obtain ⟨⟨⟨p0, p1, p2, p3⟩, pz⟩, ⟨⟨r0, r1, r2, r3⟩, rz⟩⟩ := KK.out _ hk6; have pz3 := pz 3; have rz0 := rz 0; have rz1 := rz 1; have rz2 := rz 2; have rz3 := rz 3; have O6 := hide hown6; have K6 := hide hk6; clear pz rz hown6 hk6)
      have BB6 := hide ((below_next BW5.out (below_alloc WD (.cells #[] 2))).trans (K6.out.below (B := w.heap.size) (by have := (below_next BW5.out (below_alloc WD (.cells #[] 2))).size; omega) (fun k hk hS => by omega)))
      rw [HAS.out]
      refine bodyPost_ret (v := .tuple #[.agg #[.string (str e2.path), .int .i64 e2.kind, .int .i64 e2.size, .slice av e2.chunks.length cv], .bool true]) (by simp [results, Tryz.results89, go_sem, r0, r1, r2, r3]) rfl ⟨av, cv, rfl, ?_, ?_⟩
      · refine ownsRow_mono (base := WD.heap.size) ?_ (by omega)
        refine ownsRow_kept (S := fun b => b = be ∨ b = w.heap.size) (by simpa using O6.out) ?_ (fun b hb hS => by have := (O6.out.lt b hb).1; omega)
        exact Kept.setCell (S := fun b => b = be ∨ b = w.heap.size) (p := ⟨w.heap.size, 3, none⟩) (Kept.setCell (S := fun b => b = be ∨ b = w.heap.size) (p := ⟨w.heap.size, 2, none⟩) (Kept.setCell (S := fun b => b = be ∨ b = w.heap.size) (p := ⟨w.heap.size, 1, none⟩) (Kept.setCell (S := fun b => b = be ∨ b = w.heap.size) (p := ⟨w.heap.size, 0, none⟩) (Kept.setCell (S := fun b => b = be ∨ b = w.heap.size) (p := ⟨be, 3, none⟩) (Kept.refl _ _) (fun _ => .inl rfl) _) (fun _ => .inr rfl) _) (fun _ => .inr rfl) _) (fun _ => .inr rfl) _) (fun _ => .inr rfl) _
      · exact ((((BB6.out.setCell (p := ⟨be, 3, none⟩) (by show w.heap.size ≤ be; omega) _).setCell (p := ⟨w.heap.size, 0, none⟩) (Nat.le_refl _) _).setCell (p := ⟨w.heap.size, 1, none⟩) (Nat.le_refl _) _).setCell (p := ⟨w.heap.size, 2, none⟩) (Nat.le_refl _) _).setCell (p := ⟨w.heap.size, 3, none⟩) (Nat.le_refl _) _
end Go.Proofs.YtjkmbicedbdifaaGreat
