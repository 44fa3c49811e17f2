/-
  Texts put together: MntI MntJ MntK.
-/
import Derived.Test.YtebgfaohhhgdpaaGreatKMounts21
import Derived.Test.YtebgfaohhhgdpaaGreatKMounts12
import Derived.Test.YtebgfaohhhgdpaaGreatKMounts8
import Derived.Test.YtebgfaohhhgdpaaGreatKMounts5
import Derived.Test.YtebgfaohhhgdpaaGreatKMounts16
namespace Go.Proofs.YtebgfaohhhgdpaaGreat
open Go.RowKit Go.Maps
set_option linter.unusedVariables false
attribute [local go_sem ↓] Go.wp_at_zero Go.wp_at_succ

theorem ret_intM {a b : Int} (h : a = b) : Ending.returned (.int .i64 a) = .returned (.int .i64 b) := by rw [h]
theorem saw_none {ls : List (List En)} {p : Bs} (h4 : ls.length ≤ 4) (hR : ∀ es ∈ ls, Right es) (hp : faultP p = 0) (h : findE (allE ls) p = none) : seenL ls p = none := by
  rw [all_find (rights_fit hR) h4 hp, sawE] at h
  cases hs : seenL ls p with
  | none => rfl
  | some i =>
    obtain ⟨-, e, he, -⟩ := seen_some (show seenG (seeL ls) p 4 = some i from hs)
    rw [hs] at h
    simp [he] at h
theorem saw_some {ls : List (List En)} {p : Bs} {e : En} (h4 : ls.length ≤ 4) (hR : ∀ es ∈ ls, Right es) (hp : faultP p = 0) (h : findE (allE ls) p = some e) : ∃ i f, seenL ls p = some i ∧ seeL ls i p = some f ∧ asT f = e := by
  rw [all_find (rights_fit hR) h4 hp, sawE] at h
  cases hs : seenL ls p with
  | none => rw [hs] at h; cases h
  | some i =>
    obtain ⟨-, f, hf, -⟩ := seen_some (show seenG (seeL ls) p 4 = some i from hs)
    rw [hs] at h
    simp [hf] at h
    exact ⟨i, f, rfl, hf, h⟩
theorem l8Look_no (a : Option Addr) (c n : Nat) (ls : List (List En)) (p : Bs) (w : World) (h : RdL w a ls) (hn : n = ls.length) (h4 : ls.length ≤ 4) (hR : ∀ es ∈ ls, Right es) (hp : faultP p = 0) (hpl : p.length ≤ 1048576) (hs : findE (allE ls) p = none) :
    Calls Tryz.prog 58 #[.slice a n c, .string (str p)] w (LookNo w) := l8Look_none a c n ls p w h hn h4 hR hp hpl (saw_none h4 hR hp hs)
theorem l8Look_yes (a : Option Addr) (c n : Nat) (ls : List (List En)) (p : Bs) (w : World) (h : RdL w a ls) (hn : n = ls.length) (h4 : ls.length ≤ 4) (hR : ∀ es ∈ ls, Right es) (hp : faultP p = 0) (hpl : p.length ≤ 1048576) (e : En) (hs : findE (allE ls) p = some e) :
    Calls Tryz.prog 58 #[.slice a n c, .string (str p)] w (LookYes e w) := by
  obtain ⟨i, f, h1, h2, h3⟩ := saw_some h4 hR hp hs
  have := l8Look_some a c n ls p w h hn h4 hR hp hpl i f h1 h2
  rwa [h3] at this
theorem homR_view {ls : List (List En)} {p : Bs} (hz : layersP ls = 0) (hp : faultP p = 0) : homR ls p = homeC (allE ls) p := by
  by_cases h0 : parentP p = []
  · rw [homR, if_pos h0, homeC_top h0]
  · obtain ⟨hq, -⟩ := parent_above hp h0
    have hne : parentP p ≠ [47] := fun e => by rw [e] at hq; revert hq; decide
    rw [homR, if_neg h0, lovC, if_neg hne, (look_all (askL_of hz hq)).1]
    have hf := all_fit (rights_fit (layersP_zero.1 hz).2)
    cases hs : findE (allE ls) (parentP p) with
    | none => rw [homeC_none h0 hs]; rfl
    | some e =>
      have hk := hf.kind e (find_mem hs).1
      simp only [homeC, if_neg h0, hs, Option.isSome_some, if_true]
      have hk2 : e.kind = 1 ∨ e.kind = 2 := by simpa [treeK] using hk
      rcases hk2 with h | h <;> simp [h]
set_option maxRecDepth 100000 in
set_option maxHeartbeats 3200000 in
theorem l9Home_any (a : Option Addr) (c n : Nat) (ls : List (List En)) (p : Bs) (w : World) (h : RdL w a ls) (hn : n = ls.length) (h4 : ls.length ≤ 4) (hR : ∀ es ∈ ls, Right es) (hp : faultP p = 0) (hpl : p.length ≤ 1048576) :
    Calls Tryz.prog 89 #[.slice a n c, .string (str p)] w fun r w' => r = .returned (.int .i64 (homeC (allE ls) p)) ∧ Below w.heap.size w w' := by
  subst hn
  have hsz := str_size p
  have h1 : 1 ≤ (str p).size := faultP_pos (by rw [str_data]; exact hp)
  have HP := hide (show (aboveN (cutB (str p).data.toList.tail)).getLastD [] = parentP p from by rw [str_data]; rfl)
  by_cases hq : parentP p = []
  · have HE := hide (homeC_top (es := allE ls) hq)
    have hs := (str_empty (parentP p)).trans (decide_eq_true hq)
    clear hq h hR
    generalize homeC (allE ls) p = HC at *
    go_enter Tryz.func89, Tryz.ntmps89
    go_wp2_with fail
    refine (l3Parent_any _ _ (by omega) (by omega)).mono ?_
    rintro r w1 ⟨rfl, hb⟩
    rw [HP.out]
    have HB := hide hb
    clear hb
    go_wp2_with fail
    go_ret
    exact ⟨ret_intM HE.out.symm, HB.out⟩
  · have hs := (str_empty (parentP p)).trans (decide_eq_false hq)
    obtain ⟨hqp, hqb⟩ := parent_above hp hq
    have hql : (parentP p).length ≤ 1048576 := by have := below_len hqb; omega
    cases ha : findE (allE ls) (parentP p) with
    | none =>
      have HE := hide (homeC_none hq ha)
      have HLK := hide (fun u (hu : Below w.heap.size w u) => l8Look_no a c ls.length ls (parentP p) u (h.below hu) rfl h4 hR hqp hql ha)
      clear hq ha h hR hqp hqb
      generalize homeC (allE ls) p = HC at *
      generalize parentP p = PT at *
      go_enter Tryz.func89, Tryz.ntmps89
      go_wp2_with fail
      refine (l3Parent_any _ _ (by omega) (by omega)).mono ?_
      rintro r w1 ⟨rfl, hb⟩
      rw [HP.out]
      have HB := hide hb
      clear hb
      go_wp2_with fail
      refine (HLK.out w1 HB.out).mono ?_
      rintro r w2 ⟨rfl, hb2⟩
      have B2 := hide (below_next HB.out (below_next hb2 (below_alloc w2 (.cells #[.string ⟨#[]⟩, .int .i64 0, .int .i64 0, .slice none 0 0] 53))))
      clear hb2
      go_wp2_with fail
      go_ret
      exact ⟨ret_intM HE.out.symm, B2.out⟩
    | some e =>
      have HE : Hid (homeC (allE ls) p = if e.kind = 1 then 9 else 0) := hide (by simp [homeC, hq, ha])
      have HLK := hide (fun u (hu : Below w.heap.size w u) => l8Look_yes a c ls.length ls (parentP p) u (h.below hu) rfl h4 hR hqp hql e ha)
      clear hq ha h hR hqp hqb
      generalize homeC (allE ls) p = HC at *
      generalize parentP p = PT at *
      have HD := hide (Decidable.em (e.kind = 1))
      go_enter Tryz.func89, Tryz.ntmps89
      go_wp2_with fail
      refine (l3Parent_any _ _ (by omega) (by omega)).mono ?_
      rintro r w1 ⟨rfl, hb⟩
      rw [HP.out]
      have HB := hide hb
      clear hb
      go_wp2_with fail
      refine (HLK.out w1 HB.out).mono ?_
      rintro r w2 ⟨x, xc, rfl, -, hb2⟩
      have B2 := hide (below_next HB.out (below_next hb2 (below_alloc w2 (.cells #[.string (str e.path), .int .i64 e.kind, .int .i64 e.size, .slice x e.chunks.length xc] 53))))
      obtain ⟨f0, f1, f2, f3⟩ := Four.new w2 (.string (str e.path)) (.int .i64 e.kind) (.int .i64 e.size) (.slice x e.chunks.length xc) 53
      clear hb2
      by_cases hk : e.kind = 1
      · have HE2 := hide (show HC = 9 by rw [HE.out, if_pos hk])
        have hk2 : (e.kind == 1) = true := by simpa using hk
        clear hk
        go_wp2_with fail
        go_ret
        exact ⟨ret_intM HE2.out.symm, B2.out⟩
      · have HE2 := hide (show HC = 0 by rw [HE.out, if_neg hk])
        have hk2 : (e.kind == 1) = false := by simpa using hk
        clear hk
        go_wp2_with fail
        go_ret
        exact ⟨ret_intM HE2.out.symm, B2.out⟩
end Go.Proofs.YtebgfaohhhgdpaaGreat

namespace Go.Proofs.YtebgfaohhhgdpaaGreat
open Go.RowKit Go.Maps
set_option linter.unusedVariables false
attribute [local go_sem ↓] Go.wp_at_zero Go.wp_at_succ

def FillsO (O U : List En) (e : En) (rep : Int) (V : List En) : Prop := (12 < (fillS U e).length → rep = 2 ∧ V = O) ∧ (¬ 12 < (fillS U e).length → rep = 0 ∧ V = fillS U e)
theorem fills_ex (O U : List En) (e : En) : ∃ rep V, FillsO O U e rep V := by
  by_cases h : 12 < (fillS U e).length
  · exact ⟨2, O, fun _ => ⟨rfl, rfl⟩, fun h2 => absurd h h2⟩
  · exact ⟨0, fillS U e, fun h2 => absurd h2 h, fun _ => ⟨rfl, rfl⟩⟩
def wrS (T : List En) (p : Bs) : Int := if homeC T p = 0 then (match findE T p with | some e => if e.kind = 2 then 9 else 0 | none => 0) else homeC T p
structure WrS (T U : List En) (p : Bs) (e : En) (rep : Int) (V : List En) : Prop where
  no : wrS T p ≠ 0 → rep = wrS T p ∧ V = U
  yes : wrS T p = 0 → FillsO U U e rep V
theorem WrS.stay {T U : List En} {p : Bs} {e : En} {q : Int} (h : wrS T p = q) (hq : q ≠ 0) : WrS T U p e q U := ⟨fun _ => ⟨h.symm, rfl⟩, fun h2 => absurd (h.symm.trans h2) hq⟩
theorem WrS.fill {T U : List En} {p : Bs} {e : En} {rep : Int} {V : List En} (h : wrS T p = 0) (hf : FillsO U U e rep V) : WrS T U p e rep V := ⟨fun h2 => absurd h h2, fun _ => hf⟩
def mkS (T : List En) (p : Bs) : Int := if homeC T p = 0 then (if (findE T p).isSome then 7 else 0) else homeC T p
def dirF (U : List En) (p : Bs) : En := ⟨p, (match findE U p with | some x => if x.kind = 3 then 4 else 2 | none => 2), 0, []⟩
structure MkS (T U : List En) (p : Bs) (rep : Int) (V : List En) : Prop where
  no : mkS T p ≠ 0 → rep = mkS T p ∧ V = U
  yes : mkS T p = 0 → FillsO U U (dirF U p) rep V
theorem MkS.stay {T U : List En} {p : Bs} {q : Int} (h : mkS T p = q) (hq : q ≠ 0) : MkS T U p q U := ⟨fun _ => ⟨h.symm, rfl⟩, fun h2 => absurd (h.symm.trans h2) hq⟩
theorem MkS.fill {T U : List En} {p : Bs} {rep : Int} {V : List En} (h : mkS T p = 0) (hf : FillsO U U (dirF U p) rep V) : MkS T U p rep V := ⟨fun h2 => absurd h h2, fun _ => hf⟩
set_option maxRecDepth 100000 in
set_option maxHeartbeats 6400000 in
theorem l9Write_any (a : Option Addr) (c n : Nat) (ls : List (List En)) (u : Option Addr) (uc m : Nat) (U : List En) (p : Bs) (zs : List Int) (d : Option Addr) (dc : Nat) (w : World) (h : RdL w a ls) (hn : n = ls.length) (hU : RdE w u U) (hm : m = U.length) (h4 : (ls ++ [U]).length ≤ 4) (hR : ∀ es ∈ ls ++ [U], Right es) (hp : faultP p = 0) (hpl : p.length ≤ 1048576) (hd : Reads .u8 w d zs) (hu8 : U8 zs) (hdc : zs.length ≤ dc) (hdl : zs.length ≤ 24) :
    Calls Tryz.prog 39 #[.slice a n c, .slice u m uc, .string (str p), .slice d zs.length dc] w fun r w' => ∃ rep V, WrS (allE (ls ++ [U])) U p (fileE p zs) rep V ∧ ResG 0 rep V w r w' := by
  subst hn
  subst hm
  have hRU : Right U := hR U (by simp)
  have hl4 : ls.length ≤ 4 := by rw [List.length_append] at h4; omega
  have hUl := hRU.len
  have HUs := hide (right_small hRU)
  have HP := hide hp
  have X0 := hide (Box3.new w (.int .i64 0) (.int .i64 0) (.slice none 0 0) 32)
  have B0 := hide (below_alloc w (.cells #[.int .i64 0, .int .i64 0, .slice none 0 0] 32))
  have HA := hide (l9All_any a c ls.length ls u uc U.length U _ (h.below B0.out) rfl (by omega) (hU.below B0.out) rfl)
  have HU := hide hU
  have HST := hide (fun (q : Int) v (hv : Below w.heap.size w v) => l9Reply_any u uc U.length U q v (HU.out.below hv) rfl (by omega) HUs.out)
  have HRR := hide hR
  have H4 := hide h4
  have HD := hide hd
  have HU8 := hide hu8
  clear hd hu8
  clear h hU hR hRU hp h4
  obtain ⟨al, hal⟩ : ∃ al, al = ls ++ [U] := ⟨_, rfl⟩
  rw [← hal] at HA HRR H4 ⊢
  have HALL := hide hal
  clear hal
  by_cases hh : homeC (allE al) p = 0
  · cases ha : findE (allE al) p with
    | none =>
      have HC := hide (show wrS (allE al) p = 0 by simp [wrS, hh, ha])
      have HFI := hide (fun v (hv : Below w.heap.size w v) => l4File_any p d dc zs v (HD.out.below hv) HU8.out hdc hdl)
      obtain ⟨rep, V, hV⟩ := fills_ex U U (fileE p zs)
      have HV := hide hV
      clear hV
      go_enter Tryz.func39, Tryz.ntmps39
      go_wp2_with fail
      refine HA.out.mono ?_
      rintro r w1 ⟨av, cv, rfl, hr1, hb1⟩
      have X1 := hide (X0.out.below hb1)
      have B1 := hide (below_next B0.out hb1)
      have R1 := hide hr1
      have hlt := X1.out.lt
      clear hr1 hb1 HA X0 B0
      have HHM := hide (l9Home_any av cv _ _ p w1 R1.out rfl H4.out HRR.out HP.out hpl)
      rw [hh] at HHM
      clear hh
      go_wp2_with fail
      refine HHM.out.mono ?_
      rintro r w2 ⟨rfl, hb2⟩
      have X2 := hide (X1.out.below hb2)
      have B2 := hide (below_next B1.out hb2)
      have R2 := hide (R1.out.below hb2)
      clear hb2 HHM X1 B1 R1
      have HLK := hide (l8Look_no av cv _ _ p w2 R2.out rfl H4.out HRR.out HP.out hpl ha)
      clear ha
      go_wp2_with fail
      refine HLK.out.mono ?_
      rintro r w3 ⟨rfl, hb3⟩
      have A3 := hide (below_alloc w3 (.cells #[.string ⟨#[]⟩, .int .i64 0, .int .i64 0, .slice none 0 0] 53))
      have B3 := hide (below_next B2.out (below_next hb3 A3.out))
      have X3 := hide (X2.out.below (below_next hb3 A3.out))
      have R3 := hide (R2.out.below (below_next hb3 A3.out))
      obtain ⟨f0, f1, f2, f3⟩ := Four.new w3 (.string ⟨#[]⟩) (.int .i64 0) (.int .i64 0) (.slice none 0 0) 53
      clear hb3 A3 HLK X2 B2 R2
      go_wp2_with fail
      clear f0 f1 f2 f3
      generalize w3.alloc (.cells #[.string ⟨#[]⟩, .int .i64 0, .int .i64 0, .slice none 0 0] 53) = W3 at *
      refine (HFI.out W3 B3.out).mono ?_
      rintro r w4 ⟨yv, yc, rfl, hO4, hb4⟩
      have B4 := hide (below_next B3.out hb4)
      have X4 := hide (X3.out.below hb4)
      have HFL := hide (l9Fill_any u uc U.length U u uc U.length U (fileE p zs) yv (cut zs).length yc w4 (HU.out.below B4.out) rfl (by omega) HUs.out (HU.out.below B4.out) rfl (by omega) HUs.out HP.out (digs_len zs).symm (ownInts_reads hO4 (digs_len zs).symm) hpl (by show (digs zs (cut zs).length).length ≤ 1048576; rw [digs_len, cut_length]; omega) rep V HV.out)
      rw [show (fileE p zs).path = p from rfl, show (fileE p zs).kind = 1 from rfl, show (fileE p zs).size = zs.length from rfl] at HFL
      clear hO4 hb4 X3 B3
      go_wp2_with fail
      refine HFL.out.mono ?_
      rintro r w9 ⟨av9, cv9, rfl, hG9, hb9⟩
      have G9 := hide hG9
      have B9 := hide (below_next B4.out hb9)
      have hl9 := X4.out.lt
      obtain ⟨⟨t0, t1, t2⟩, t3, t4, t5⟩ := X4.out.below hb9
      clear hG9 hb9
      go_wp2_with fail
      exact bodyPost_ret (v := .agg #[.int .i64 0, .int .i64 rep, .slice av9 V.length cv9]) (by simp [results, Tryz.results39, go_sem, t0, t1, t2]) rfl ⟨rep, V, WrS.fill HC.out HV.out, ResG.of hl9 (Nat.le_refl _) rfl G9.out B9.out⟩
    | some e =>
      by_cases hk : e.kind = 2
      · have HC := hide (show wrS (allE al) p = 9 by simp [wrS, hh, ha, hk])
        have hk2 : (e.kind == 2) = true := by simpa using hk
        clear hk
        go_enter Tryz.func39, Tryz.ntmps39
        go_wp2_with fail
        refine HA.out.mono ?_
        rintro r w1 ⟨av, cv, rfl, hr1, hb1⟩
        have X1 := hide (X0.out.below hb1)
        have B1 := hide (below_next B0.out hb1)
        have R1 := hide hr1
        have hlt := X1.out.lt
        clear hr1 hb1 HA X0 B0
        have HHM := hide (l9Home_any av cv _ _ p w1 R1.out rfl H4.out HRR.out HP.out hpl)
        rw [hh] at HHM
        clear hh
        go_wp2_with fail
        refine HHM.out.mono ?_
        rintro r w2 ⟨rfl, hb2⟩
        have X2 := hide (X1.out.below hb2)
        have B2 := hide (below_next B1.out hb2)
        have R2 := hide (R1.out.below hb2)
        clear hb2 HHM X1 B1 R1
        have HLK := hide (l8Look_yes av cv _ _ p w2 R2.out rfl H4.out HRR.out HP.out hpl e ha)
        clear ha
        go_wp2_with fail
        refine HLK.out.mono ?_
        rintro r w3 ⟨x, xc, rfl, -, hb3⟩
        have A3 := hide (below_alloc w3 (.cells #[.string (str e.path), .int .i64 e.kind, .int .i64 e.size, .slice x e.chunks.length xc] 53))
        have B3 := hide (below_next B2.out (below_next hb3 A3.out))
        have X3 := hide (X2.out.below (below_next hb3 A3.out))
        have R3 := hide (R2.out.below (below_next hb3 A3.out))
        obtain ⟨f0, f1, f2, f3⟩ := Four.new w3 (.string (str e.path)) (.int .i64 e.kind) (.int .i64 e.size) (.slice x e.chunks.length xc) 53
        clear hb3 A3 HLK X2 B2 R2
        go_wp2_with fail
        clear f0 f1 f2 f3
        generalize w3.alloc (.cells #[.string (str e.path), .int .i64 e.kind, .int .i64 e.size, .slice x e.chunks.length xc] 53) = W3 at *
        refine (HST.out 9 W3 B3.out).mono ?_
        rintro r w9 ⟨av9, cv9, rfl, hG9, hb9⟩
        have G9 := hide hG9
        have B9 := hide (below_next B3.out hb9)
        have hl9 := X3.out.lt
        obtain ⟨⟨t0, t1, t2⟩, t3, t4, t5⟩ := X3.out.below hb9
        clear hG9 hb9
        go_wp2_with fail
        exact bodyPost_ret (v := .agg #[.int .i64 0, .int .i64 9, .slice av9 U.length cv9]) (by simp [results, Tryz.results39, go_sem, t0, t1, t2]) rfl ⟨9, U, WrS.stay HC.out (by decide), ResG.of hl9 (Nat.le_refl _) rfl G9.out B9.out⟩
      · have HC := hide (show wrS (allE al) p = 0 by simp [wrS, hh, ha, hk])
        have hk2 : (e.kind == 2) = false := by simpa using hk
        clear hk
        have HFI := hide (fun v (hv : Below w.heap.size w v) => l4File_any p d dc zs v (HD.out.below hv) HU8.out hdc hdl)
        obtain ⟨rep, V, hV⟩ := fills_ex U U (fileE p zs)
        have HV := hide hV
        clear hV
        go_enter Tryz.func39, Tryz.ntmps39
        go_wp2_with fail
        refine HA.out.mono ?_
        rintro r w1 ⟨av, cv, rfl, hr1, hb1⟩
        have X1 := hide (X0.out.below hb1)
        have B1 := hide (below_next B0.out hb1)
        have R1 := hide hr1
        have hlt := X1.out.lt
        clear hr1 hb1 HA X0 B0
        have HHM := hide (l9Home_any av cv _ _ p w1 R1.out rfl H4.out HRR.out HP.out hpl)
        rw [hh] at HHM
        clear hh
        go_wp2_with fail
        refine HHM.out.mono ?_
        rintro r w2 ⟨rfl, hb2⟩
        have X2 := hide (X1.out.below hb2)
        have B2 := hide (below_next B1.out hb2)
        have R2 := hide (R1.out.below hb2)
        clear hb2 HHM X1 B1 R1
        have HLK := hide (l8Look_yes av cv _ _ p w2 R2.out rfl H4.out HRR.out HP.out hpl e ha)
        clear ha
        go_wp2_with fail
        refine HLK.out.mono ?_
        rintro r w3 ⟨x, xc, rfl, -, hb3⟩
        have A3 := hide (below_alloc w3 (.cells #[.string (str e.path), .int .i64 e.kind, .int .i64 e.size, .slice x e.chunks.length xc] 53))
        have B3 := hide (below_next B2.out (below_next hb3 A3.out))
        have X3 := hide (X2.out.below (below_next hb3 A3.out))
        have R3 := hide (R2.out.below (below_next hb3 A3.out))
        obtain ⟨f0, f1, f2, f3⟩ := Four.new w3 (.string (str e.path)) (.int .i64 e.kind) (.int .i64 e.size) (.slice x e.chunks.length xc) 53
        clear hb3 A3 HLK X2 B2 R2
        go_wp2_with fail
        clear f0 f1 f2 f3
        generalize w3.alloc (.cells #[.string (str e.path), .int .i64 e.kind, .int .i64 e.size, .slice x e.chunks.length xc] 53) = W3 at *
        refine (HFI.out W3 B3.out).mono ?_
        rintro r w4 ⟨yv, yc, rfl, hO4, hb4⟩
        have B4 := hide (below_next B3.out hb4)
        have X4 := hide (X3.out.below hb4)
        have HFL := hide (l9Fill_any u uc U.length U u uc U.length U (fileE p zs) yv (cut zs).length yc w4 (HU.out.below B4.out) rfl (by omega) HUs.out (HU.out.below B4.out) rfl (by omega) HUs.out HP.out (digs_len zs).symm (ownInts_reads hO4 (digs_len zs).symm) hpl (by show (digs zs (cut zs).length).length ≤ 1048576; rw [digs_len, cut_length]; omega) rep V HV.out)
        rw [show (fileE p zs).path = p from rfl, show (fileE p zs).kind = 1 from rfl, show (fileE p zs).size = zs.length from rfl] at HFL
        clear hO4 hb4 X3 B3
        go_wp2_with fail
        refine HFL.out.mono ?_
        rintro r w9 ⟨av9, cv9, rfl, hG9, hb9⟩
        have G9 := hide hG9
        have B9 := hide (below_next B4.out hb9)
        have hl9 := X4.out.lt
        obtain ⟨⟨t0, t1, t2⟩, t3, t4, t5⟩ := X4.out.below hb9
        clear hG9 hb9
        go_wp2_with fail
        exact bodyPost_ret (v := .agg #[.int .i64 0, .int .i64 rep, .slice av9 V.length cv9]) (by simp [results, Tryz.results39, go_sem, t0, t1, t2]) rfl ⟨rep, V, WrS.fill HC.out HV.out, ResG.of hl9 (Nat.le_refl _) rfl G9.out B9.out⟩
  · have HC := hide (show wrS (allE al) p = homeC (allE al) p by simp [wrS, hh])
    have HH0 := hide hh
    obtain ⟨F, hF⟩ : ∃ F, F = homeC (allE al) p := ⟨_, rfl⟩
    rw [← hF] at HC HH0
    have HFE := hide hF
    have hz2 : (F != 0) = true := by simp; exact HH0.out
    clear hh hF
    go_enter Tryz.func39, Tryz.ntmps39
    go_wp2_with fail
    refine HA.out.mono ?_
    rintro r w1 ⟨av, cv, rfl, hr1, hb1⟩
    have X1 := hide (X0.out.below hb1)
    have B1 := hide (below_next B0.out hb1)
    have R1 := hide hr1
    have hlt := X1.out.lt
    clear hr1 hb1 HA X0 B0
    have HHM := hide (l9Home_any av cv _ _ p w1 R1.out rfl H4.out HRR.out HP.out hpl)
    rw [← HFE.out] at HHM
    go_wp2_with fail
    refine HHM.out.mono ?_
    rintro r w2 ⟨rfl, hb2⟩
    have X2 := hide (X1.out.below hb2)
    have B2 := hide (below_next B1.out hb2)
    have R2 := hide (R1.out.below hb2)
    clear hb2 HHM X1 B1 R1
    go_wp2_with fail
    refine (HST.out F w2 B2.out).mono ?_
    rintro r w9 ⟨av9, cv9, rfl, hG9, hb9⟩
    have G9 := hide hG9
    have B9 := hide (below_next B2.out hb9)
    have hl9 := X2.out.lt
    obtain ⟨⟨t0, t1, t2⟩, t3, t4, t5⟩ := X2.out.below hb9
    clear hG9 hb9
    go_wp2_with fail
    exact bodyPost_ret (v := .agg #[.int .i64 0, .int .i64 F, .slice av9 U.length cv9]) (by simp [results, Tryz.results39, go_sem, t0, t1, t2]) rfl ⟨F, U, WrS.stay HC.out HH0.out, ResG.of hl9 (Nat.le_refl _) rfl G9.out B9.out⟩
end Go.Proofs.YtebgfaohhhgdpaaGreat

namespace Go.Proofs.YtebgfaohhhgdpaaGreat
open Go.RowKit Go.Maps
set_option linter.unusedVariables false
attribute [local go_sem ↓] Go.wp_at_zero Go.wp_at_succ

set_option maxRecDepth 100000 in
set_option maxHeartbeats 6400000 in
theorem l9Make_any (a : Option Addr) (c n : Nat) (ls : List (List En)) (u : Option Addr) (uc m : Nat) (U : List En) (p : Bs) (w : World) (h : RdL w a ls) (hn : n = ls.length) (hU : RdE w u U) (hm : m = U.length) (h4 : (ls ++ [U]).length ≤ 4) (hR : ∀ es ∈ ls ++ [U], Right es) (hp : faultP p = 0) (hpl : p.length ≤ 1048576) :
    Calls Tryz.prog 43 #[.slice a n c, .slice u m uc, .string (str p)] w fun r w' => ∃ rep V, MkS (allE (ls ++ [U])) U p rep V ∧ ResG 0 rep V w r w' := by
  subst hn
  subst hm
  have hRU : Right U := hR U (by simp)
  have hl4 : ls.length ≤ 4 := by rw [List.length_append] at h4; omega
  have hUl := hRU.len
  have HUs := hide (right_small hRU)
  have HP := hide hp
  have X0 := hide (Box3.new w (.int .i64 0) (.int .i64 0) (.slice none 0 0) 32)
  have B0 := hide (below_alloc w (.cells #[.int .i64 0, .int .i64 0, .slice none 0 0] 32))
  have HA := hide (l9All_any a c ls.length ls u uc U.length U _ (h.below B0.out) rfl (by omega) (hU.below B0.out) rfl)
  have HU := hide hU
  have HST := hide (fun (q : Int) v (hv : Below w.heap.size w v) => l9Reply_any u uc U.length U q v (HU.out.below hv) rfl (by omega) HUs.out)
  have HRR := hide hR
  have H4 := hide h4
  clear h hU hR hRU hp h4
  obtain ⟨al, hal⟩ : ∃ al, al = ls ++ [U] := ⟨_, rfl⟩
  rw [← hal] at HA HRR H4 ⊢
  have HALL := hide hal
  clear hal
  by_cases hh : homeC (allE al) p = 0
  · cases ha : findE (allE al) p with
    | none =>
      have HC := hide (show mkS (allE al) p = 0 by simp [mkS, hh, ha])
      cases hat : atE U p with
      | none =>
        have HAT0 := hide hat
        have hdf : dirF U p = ⟨p, 2, 0, []⟩ := by simp [dirF, find_at_none hat]
        clear hat
        obtain ⟨rep, V, hV⟩ := fills_ex U U (dirF U p)
        have HCP := hide (MkS.fill HC.out hV)
        rw [hdf] at hV
        have HV := hide hV
        clear hV hdf HC
        go_enter Tryz.func43, Tryz.ntmps43
        go_wp2_with fail
        refine HA.out.mono ?_
        rintro r w1 ⟨av, cv, rfl, hr1, hb1⟩
        have X1 := hide (X0.out.below hb1)
        have B1 := hide (below_next B0.out hb1)
        have R1 := hide hr1
        have hlt := X1.out.lt
        clear hr1 hb1 HA X0 B0
        have HHM := hide (l9Home_any av cv _ _ p w1 R1.out rfl H4.out HRR.out HP.out hpl)
        rw [hh] at HHM
        clear hh
        go_wp2_with fail
        refine HHM.out.mono ?_
        rintro r w2 ⟨rfl, hb2⟩
        have X2 := hide (X1.out.below hb2)
        have B2 := hide (below_next B1.out hb2)
        have R2 := hide (R1.out.below hb2)
        clear hb2 HHM X1 B1 R1
        have HLK := hide (l8Look_no av cv _ _ p w2 R2.out rfl H4.out HRR.out HP.out hpl ha)
        clear ha
        go_wp2_with fail
        refine HLK.out.mono ?_
        rintro r w3 ⟨rfl, hb3⟩
        have A3 := hide (below_alloc w3 (.cells #[.string ⟨#[]⟩, .int .i64 0, .int .i64 0, .slice none 0 0] 53))
        have B3 := hide (below_next B2.out (below_next hb3 A3.out))
        have X3 := hide (X2.out.below (below_next hb3 A3.out))
        have R3 := hide (R2.out.below (below_next hb3 A3.out))
        obtain ⟨f0, f1, f2, f3⟩ := Four.new w3 (.string ⟨#[]⟩) (.int .i64 0) (.int .i64 0) (.slice none 0 0) 53
        clear hb3 A3 HLK X2 B2 R2
        go_wp2_with fail
        clear f0 f1 f2 f3
        generalize hW3 : w3.alloc (.cells #[.string ⟨#[]⟩, .int .i64 0, .int .i64 0, .slice none 0 0] 53) = W3 at *
        have HS3 := hide (show W3.heap.size = w3.heap.size + 1 by rw [← hW3]; simp)
        clear hW3
        have A4 := hide (below_alloc W3 (.cells #[.string (str p), .int .i64 2, .int .i64 0, .slice none 0 0] 53))
        have B4 := hide (below_next B3.out A4.out)
        have X4 := hide (X3.out.below A4.out)
        have HAT := hide (l4At_any u uc U.length U p _ (HU.out.below B4.out) rfl (by omega))
        have F4 := hide (Four.new W3 (.string (str p)) (.int .i64 2) (.int .i64 0) (.slice none 0 0) 53)
        rw [HS3.out] at F4
        have K4 : Hid (∀ i, (W3.alloc (.cells #[.string (str p), .int .i64 2, .int .i64 0, .slice none 0 0] 53)).frozen? ⟨w3.heap.size + 1, i, none⟩ = false) := hide (fun i => by rw [← HS3.out]; simp)
        have hlt3 := B3.out.size
        refine HAT.out.mono ?_
        rintro r w4 ⟨rfl, rfl⟩
        rw [HAT0.out]
        simp only [placeI]
        clear HAT HAT0
        obtain ⟨f0, f1, f2, f3⟩ := F4.out
        go_wp2_with fail
        clear f0 f1 f2 f3
        generalize W3.alloc (.cells #[.string (str p), .int .i64 2, .int .i64 0, .slice none 0 0] 53) = W4 at *
        have HFL := hide (l9Fill_any u uc U.length U u uc U.length U ⟨p, 2, 0, []⟩ none 0 0 W4 (HU.out.below B4.out) rfl (by omega) HUs.out (HU.out.below B4.out) rfl (by omega) HUs.out HP.out rfl (fun hz => absurd rfl hz) hpl (by simp) rep V HV.out)
        refine HFL.out.mono ?_
        rintro r w9 ⟨av9, cv9, rfl, hG9, hb9⟩
        have G9 := hide hG9
        have B9 := hide (below_next B4.out hb9)
        have hl9 := X4.out.lt
        obtain ⟨⟨t0, t1, t2⟩, t3, t4, t5⟩ := X4.out.below hb9
        clear hG9 hb9
        go_wp2_with fail
        exact bodyPost_ret (v := .agg #[.int .i64 0, .int .i64 rep, .slice av9 V.length cv9]) (by simp [results, Tryz.results43, go_sem, t0, t1, t2]) rfl ⟨rep, V, HCP.out, ResG.of hl9 (Nat.le_refl _) rfl G9.out B9.out⟩
      | some k =>
        have hk := atE_lt hat
        obtain ⟨y, hy⟩ : ∃ y, U[k]? = some y := ⟨U[k], List.getElem?_eq_getElem hk⟩
        have HAT0 := hide hat
        have HY := hide hy
        by_cases hy3 : y.kind = 3
        · have hdf : dirF U p = ⟨p, 4, 0, []⟩ := by simp [dirF, find_at hat hy, hy3]
          have hy3b : (y.kind == 3) = true := by simpa using hy3
          clear hat hy hy3
          obtain ⟨rep, V, hV⟩ := fills_ex U U (dirF U p)
          have HCP := hide (MkS.fill HC.out hV)
          rw [hdf] at hV
          have HV := hide hV
          clear hV hdf HC
          go_enter Tryz.func43, Tryz.ntmps43
          go_wp2_with fail
          refine HA.out.mono ?_
          rintro r w1 ⟨av, cv, rfl, hr1, hb1⟩
          have X1 := hide (X0.out.below hb1)
          have B1 := hide (below_next B0.out hb1)
          have R1 := hide hr1
          have hlt := X1.out.lt
          clear hr1 hb1 HA X0 B0
          have HHM := hide (l9Home_any av cv _ _ p w1 R1.out rfl H4.out HRR.out HP.out hpl)
          rw [hh] at HHM
          clear hh
          go_wp2_with fail
          refine HHM.out.mono ?_
          rintro r w2 ⟨rfl, hb2⟩
          have X2 := hide (X1.out.below hb2)
          have B2 := hide (below_next B1.out hb2)
          have R2 := hide (R1.out.below hb2)
          clear hb2 HHM X1 B1 R1
          have HLK := hide (l8Look_no av cv _ _ p w2 R2.out rfl H4.out HRR.out HP.out hpl ha)
          clear ha
          go_wp2_with fail
          refine HLK.out.mono ?_
          rintro r w3 ⟨rfl, hb3⟩
          have A3 := hide (below_alloc w3 (.cells #[.string ⟨#[]⟩, .int .i64 0, .int .i64 0, .slice none 0 0] 53))
          have B3 := hide (below_next B2.out (below_next hb3 A3.out))
          have X3 := hide (X2.out.below (below_next hb3 A3.out))
          have R3 := hide (R2.out.below (below_next hb3 A3.out))
          obtain ⟨f0, f1, f2, f3⟩ := Four.new w3 (.string ⟨#[]⟩) (.int .i64 0) (.int .i64 0) (.slice none 0 0) 53
          clear hb3 A3 HLK X2 B2 R2
          go_wp2_with fail
          clear f0 f1 f2 f3
          generalize hW3 : w3.alloc (.cells #[.string ⟨#[]⟩, .int .i64 0, .int .i64 0, .slice none 0 0] 53) = W3 at *
          have HS3 := hide (show W3.heap.size = w3.heap.size + 1 by rw [← hW3]; simp)
          clear hW3
          have A4 := hide (below_alloc W3 (.cells #[.string (str p), .int .i64 2, .int .i64 0, .slice none 0 0] 53))
          have B4 := hide (below_next B3.out A4.out)
          have X4 := hide (X3.out.below A4.out)
          have HAT := hide (l4At_any u uc U.length U p _ (HU.out.below B4.out) rfl (by omega))
          have F4 := hide (Four.new W3 (.string (str p)) (.int .i64 2) (.int .i64 0) (.slice none 0 0) 53)
          rw [HS3.out] at F4
          have K4 : Hid (∀ i, (W3.alloc (.cells #[.string (str p), .int .i64 2, .int .i64 0, .slice none 0 0] 53)).frozen? ⟨w3.heap.size + 1, i, none⟩ = false) := hide (fun i => by rw [← HS3.out]; simp)
          have hlt3 := B3.out.size
          refine HAT.out.mono ?_
          rintro r w4 ⟨rfl, rfl⟩
          rw [HAT0.out]
          simp only [placeI]
          clear HAT HAT0
          obtain ⟨f0, f1, f2, f3⟩ := F4.out
          obtain ⟨yb, yo, y', yx, yc, rfl, hyb, hye, y0, y1, y2, y3, hyr⟩ := (HU.out.below B4.out).at hk
          have hyy : y' = y := Option.some.inj (hye.symm.trans HY.out)
          subst hyy
          clear hye hyr
          have hk0 : (0 : Int) ≤ (k : Int) := by omega
          have hk1 : (k : Int) < (U.length : Int) := by omega
          have A5 := hide (A4.out.setCell (p := ⟨w3.heap.size + 1, 1, none⟩) (Nat.le_of_eq HS3.out) (.int .i64 4))
          have B5 := hide (below_next B3.out A5.out)
          have X5 := hide (X3.out.below A5.out)
          have k1 := K4.out 1
          have g0 : ((W3.alloc (.cells #[.string (str p), .int .i64 2, .int .i64 0, .slice none 0 0] 53)).setCell ⟨w3.heap.size + 1, 1, none⟩ (.int .i64 4)).cell? ⟨w3.heap.size + 1, 0, none⟩ = some (.string (str p)) := by rw [cell_set_other (by simp)]; exact f0
          have g1 : ((W3.alloc (.cells #[.string (str p), .int .i64 2, .int .i64 0, .slice none 0 0] 53)).setCell ⟨w3.heap.size + 1, 1, none⟩ (.int .i64 4)).cell? ⟨w3.heap.size + 1, 1, none⟩ = some (.int .i64 4) := cell_set_same f1
          have g2 : ((W3.alloc (.cells #[.string (str p), .int .i64 2, .int .i64 0, .slice none 0 0] 53)).setCell ⟨w3.heap.size + 1, 1, none⟩ (.int .i64 4)).cell? ⟨w3.heap.size + 1, 2, none⟩ = some (.int .i64 0) := by rw [cell_set_other (by simp)]; exact f2
          have g3 : ((W3.alloc (.cells #[.string (str p), .int .i64 2, .int .i64 0, .slice none 0 0] 53)).setCell ⟨w3.heap.size + 1, 1, none⟩ (.int .i64 4)).cell? ⟨w3.heap.size + 1, 3, none⟩ = some (.slice none 0 0) := by rw [cell_set_other (by simp)]; exact f3
          go_wp2_with fail
          clear f0 f1 f2 f3 g0 g1 g2 g3 k1 y0 y1 y2 y3
          generalize (W3.alloc (.cells #[.string (str p), .int .i64 2, .int .i64 0, .slice none 0 0] 53)).setCell ⟨w3.heap.size + 1, 1, none⟩ (.int .i64 4) = W5 at *
          have HFL := hide (l9Fill_any _ uc U.length U _ uc U.length U ⟨p, 4, 0, []⟩ none 0 0 W5 (HU.out.below B5.out) rfl (by omega) HUs.out (HU.out.below B5.out) rfl (by omega) HUs.out HP.out rfl (fun hz => absurd rfl hz) hpl (by simp) rep V HV.out)
          refine HFL.out.mono ?_
          rintro r w9 ⟨av9, cv9, rfl, hG9, hb9⟩
          have G9 := hide hG9
          have B9 := hide (below_next B5.out hb9)
          have hl9 := X5.out.lt
          obtain ⟨⟨t0, t1, t2⟩, t3, t4, t5⟩ := X5.out.below hb9
          clear hG9 hb9
          go_wp2_with fail
          exact bodyPost_ret (v := .agg #[.int .i64 0, .int .i64 rep, .slice av9 V.length cv9]) (by simp [results, Tryz.results43, go_sem, t0, t1, t2]) rfl ⟨rep, V, HCP.out, ResG.of hl9 (Nat.le_refl _) rfl G9.out B9.out⟩
        · have hdf : dirF U p = ⟨p, 2, 0, []⟩ := by simp [dirF, find_at hat hy, hy3]
          have hy3b : (y.kind == 3) = false := by simpa using hy3
          clear hat hy hy3
          obtain ⟨rep, V, hV⟩ := fills_ex U U (dirF U p)
          have HCP := hide (MkS.fill HC.out hV)
          rw [hdf] at hV
          have HV := hide hV
          clear hV hdf HC
          go_enter Tryz.func43, Tryz.ntmps43
          go_wp2_with fail
          refine HA.out.mono ?_
          rintro r w1 ⟨av, cv, rfl, hr1, hb1⟩
          have X1 := hide (X0.out.below hb1)
          have B1 := hide (below_next B0.out hb1)
          have R1 := hide hr1
          have hlt := X1.out.lt
          clear hr1 hb1 HA X0 B0
          have HHM := hide (l9Home_any av cv _ _ p w1 R1.out rfl H4.out HRR.out HP.out hpl)
          rw [hh] at HHM
          clear hh
          go_wp2_with fail
          refine HHM.out.mono ?_
          rintro r w2 ⟨rfl, hb2⟩
          have X2 := hide (X1.out.below hb2)
          have B2 := hide (below_next B1.out hb2)
          have R2 := hide (R1.out.below hb2)
          clear hb2 HHM X1 B1 R1
          have HLK := hide (l8Look_no av cv _ _ p w2 R2.out rfl H4.out HRR.out HP.out hpl ha)
          clear ha
          go_wp2_with fail
          refine HLK.out.mono ?_
          rintro r w3 ⟨rfl, hb3⟩
          have A3 := hide (below_alloc w3 (.cells #[.string ⟨#[]⟩, .int .i64 0, .int .i64 0, .slice none 0 0] 53))
          have B3 := hide (below_next B2.out (below_next hb3 A3.out))
          have X3 := hide (X2.out.below (below_next hb3 A3.out))
          have R3 := hide (R2.out.below (below_next hb3 A3.out))
          obtain ⟨f0, f1, f2, f3⟩ := Four.new w3 (.string ⟨#[]⟩) (.int .i64 0) (.int .i64 0) (.slice none 0 0) 53
          clear hb3 A3 HLK X2 B2 R2
          go_wp2_with fail
          clear f0 f1 f2 f3
          generalize hW3 : w3.alloc (.cells #[.string ⟨#[]⟩, .int .i64 0, .int .i64 0, .slice none 0 0] 53) = W3 at *
          have HS3 := hide (show W3.heap.size = w3.heap.size + 1 by rw [← hW3]; simp)
          clear hW3
          have A4 := hide (below_alloc W3 (.cells #[.string (str p), .int .i64 2, .int .i64 0, .slice none 0 0] 53))
          have B4 := hide (below_next B3.out A4.out)
          have X4 := hide (X3.out.below A4.out)
          have HAT := hide (l4At_any u uc U.length U p _ (HU.out.below B4.out) rfl (by omega))
          have F4 := hide (Four.new W3 (.string (str p)) (.int .i64 2) (.int .i64 0) (.slice none 0 0) 53)
          rw [HS3.out] at F4
          have K4 : Hid (∀ i, (W3.alloc (.cells #[.string (str p), .int .i64 2, .int .i64 0, .slice none 0 0] 53)).frozen? ⟨w3.heap.size + 1, i, none⟩ = false) := hide (fun i => by rw [← HS3.out]; simp)
          have hlt3 := B3.out.size
          refine HAT.out.mono ?_
          rintro r w4 ⟨rfl, rfl⟩
          rw [HAT0.out]
          simp only [placeI]
          clear HAT HAT0
          obtain ⟨f0, f1, f2, f3⟩ := F4.out
          obtain ⟨yb, yo, y', yx, yc, rfl, hyb, hye, y0, y1, y2, y3, hyr⟩ := (HU.out.below B4.out).at hk
          have hyy : y' = y := Option.some.inj (hye.symm.trans HY.out)
          subst hyy
          clear hye hyr
          have hk0 : (0 : Int) ≤ (k : Int) := by omega
          have hk1 : (k : Int) < (U.length : Int) := by omega
          go_wp2_with fail
          clear y0 y1 y2 y3
          clear f0 f1 f2 f3
          generalize W3.alloc (.cells #[.string (str p), .int .i64 2, .int .i64 0, .slice none 0 0] 53) = W4 at *
          have HFL := hide (l9Fill_any _ uc U.length U _ uc U.length U ⟨p, 2, 0, []⟩ none 0 0 W4 (HU.out.below B4.out) rfl (by omega) HUs.out (HU.out.below B4.out) rfl (by omega) HUs.out HP.out rfl (fun hz => absurd rfl hz) hpl (by simp) rep V HV.out)
          refine HFL.out.mono ?_
          rintro r w9 ⟨av9, cv9, rfl, hG9, hb9⟩
          have G9 := hide hG9
          have B9 := hide (below_next B4.out hb9)
          have hl9 := X4.out.lt
          obtain ⟨⟨t0, t1, t2⟩, t3, t4, t5⟩ := X4.out.below hb9
          clear hG9 hb9
          go_wp2_with fail
          exact bodyPost_ret (v := .agg #[.int .i64 0, .int .i64 rep, .slice av9 V.length cv9]) (by simp [results, Tryz.results43, go_sem, t0, t1, t2]) rfl ⟨rep, V, HCP.out, ResG.of hl9 (Nat.le_refl _) rfl G9.out B9.out⟩
    | some e =>
      have HC := hide (show mkS (allE al) p = 7 by simp [mkS, hh, ha])
      go_enter Tryz.func43, Tryz.ntmps43
      go_wp2_with fail
      refine HA.out.mono ?_
      rintro r w1 ⟨av, cv, rfl, hr1, hb1⟩
      have X1 := hide (X0.out.below hb1)
      have B1 := hide (below_next B0.out hb1)
      have R1 := hide hr1
      have hlt := X1.out.lt
      clear hr1 hb1 HA X0 B0
      have HHM := hide (l9Home_any av cv _ _ p w1 R1.out rfl H4.out HRR.out HP.out hpl)
      rw [hh] at HHM
      clear hh
      go_wp2_with fail
      refine HHM.out.mono ?_
      rintro r w2 ⟨rfl, hb2⟩
      have X2 := hide (X1.out.below hb2)
      have B2 := hide (below_next B1.out hb2)
      have R2 := hide (R1.out.below hb2)
      clear hb2 HHM X1 B1 R1
      have HLK := hide (l8Look_yes av cv _ _ p w2 R2.out rfl H4.out HRR.out HP.out hpl e ha)
      clear ha
      go_wp2_with fail
      refine HLK.out.mono ?_
      rintro r w3 ⟨x, xc, rfl, -, hb3⟩
      have A3 := hide (below_alloc w3 (.cells #[.string (str e.path), .int .i64 e.kind, .int .i64 e.size, .slice x e.chunks.length xc] 53))
      have B3 := hide (below_next B2.out (below_next hb3 A3.out))
      have X3 := hide (X2.out.below (below_next hb3 A3.out))
      have R3 := hide (R2.out.below (below_next hb3 A3.out))
      obtain ⟨f0, f1, f2, f3⟩ := Four.new w3 (.string (str e.path)) (.int .i64 e.kind) (.int .i64 e.size) (.slice x e.chunks.length xc) 53
      clear hb3 A3 HLK X2 B2 R2
      go_wp2_with fail
      clear f0 f1 f2 f3
      generalize w3.alloc (.cells #[.string (str e.path), .int .i64 e.kind, .int .i64 e.size, .slice x e.chunks.length xc] 53) = W3 at *
      refine (HST.out 7 W3 B3.out).mono ?_
      rintro r w9 ⟨av9, cv9, rfl, hG9, hb9⟩
      have G9 := hide hG9
      have B9 := hide (below_next B3.out hb9)
      have hl9 := X3.out.lt
      obtain ⟨⟨t0, t1, t2⟩, t3, t4, t5⟩ := X3.out.below hb9
      clear hG9 hb9
      go_wp2_with fail
      exact bodyPost_ret (v := .agg #[.int .i64 0, .int .i64 7, .slice av9 U.length cv9]) (by simp [results, Tryz.results43, go_sem, t0, t1, t2]) rfl ⟨7, U, MkS.stay HC.out (by decide), ResG.of hl9 (Nat.le_refl _) rfl G9.out B9.out⟩
  · have HC := hide (show mkS (allE al) p = homeC (allE al) p by simp [mkS, hh])
    have HH0 := hide hh
    obtain ⟨F, hF⟩ : ∃ F, F = homeC (allE al) p := ⟨_, rfl⟩
    rw [← hF] at HC HH0
    have HFE := hide hF
    have hz2 : (F != 0) = true := by simp; exact HH0.out
    clear hh hF
    go_enter Tryz.func43, Tryz.ntmps43
    go_wp2_with fail
    refine HA.out.mono ?_
    rintro r w1 ⟨av, cv, rfl, hr1, hb1⟩
    have X1 := hide (X0.out.below hb1)
    have B1 := hide (below_next B0.out hb1)
    have R1 := hide hr1
    have hlt := X1.out.lt
    clear hr1 hb1 HA X0 B0
    have HHM := hide (l9Home_any av cv _ _ p w1 R1.out rfl H4.out HRR.out HP.out hpl)
    rw [← HFE.out] at HHM
    go_wp2_with fail
    refine HHM.out.mono ?_
    rintro r w2 ⟨rfl, hb2⟩
    have X2 := hide (X1.out.below hb2)
    have B2 := hide (below_next B1.out hb2)
    have R2 := hide (R1.out.below hb2)
    clear hb2 HHM X1 B1 R1
    go_wp2_with fail
    refine (HST.out F w2 B2.out).mono ?_
    rintro r w9 ⟨av9, cv9, rfl, hG9, hb9⟩
    have G9 := hide hG9
    have B9 := hide (below_next B2.out hb9)
    have hl9 := X2.out.lt
    obtain ⟨⟨t0, t1, t2⟩, t3, t4, t5⟩ := X2.out.below hb9
    clear hG9 hb9
    go_wp2_with fail
    exact bodyPost_ret (v := .agg #[.int .i64 0, .int .i64 F, .slice av9 U.length cv9]) (by simp [results, Tryz.results43, go_sem, t0, t1, t2]) rfl ⟨F, U, MkS.stay HC.out HH0.out, ResG.of hl9 (Nat.le_refl _) rfl G9.out B9.out⟩
end Go.Proofs.YtebgfaohhhgdpaaGreat

