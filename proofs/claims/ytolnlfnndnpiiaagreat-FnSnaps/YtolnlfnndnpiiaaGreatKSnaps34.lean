/-
  Texts put together: SnqX SnqU SnqW SnqY IteH.
-/
import Derived.Test.YtolnlfnndnpiiaaGreatKSnaps33
import Derived.Test.YtolnlfnndnpiiaaGreatKSnaps30
import Derived.Test.YtolnlfnndnpiiaaGreatKSnaps28
import Derived.Test.YtolnlfnndnpiiaaGreatKSnaps3
import Derived.Test.YtolnlfnndnpiiaaGreatKSnaps6
set_option linter.unusedVariables false
set_option maxHeartbeats 6400000
set_option maxRecDepth 100000
namespace Go.Proofs.YtolnlfnndnpiiaaGreat
open Go.RowKit Go.Maps
attribute [local go_sem ↓] Go.wp_at_zero Go.wp_at_succ
theorem yX (a:Option Addr) (c n:Nat) (l:List Sn) (nm p:Bs) (da:Option Addr) (dn dc:Nat) (zs:List Int) (k:Int) (w:World) (h:RdS w a l) (hn:n=l.length) (hl:l.length≤1048576) (hs:cD l) (hz:snF l≠0) :
  Calls Tryz.prog 7 #[.slice a n c,.string (str nm),.string (str p),.slice da dn dc,.int .i64 k] w (iA (snF l) 0 [] w):=by
 subst hn;have B0:Hid (Below w.heap.size w ((((((w.alloc (.cells #[.slice a l.length c] 24)).alloc (.cells #[.string (str nm)] 9)).alloc (.cells #[.string (str p)] 9)).alloc (.cells #[.slice da dn dc] 22)).alloc (.cells #[.int .i64 k] 2)).alloc (.cells #[.int .i64 0,.int .i64 0,.slice none 0 0] 28))):=aA ((((((((Below.refl w.heap.size w).alloc (Nat.le_refl _) _).alloc (by simp) _).alloc (by simp;omega) _).alloc (by simp;omega) _).alloc (by simp;omega) _).alloc (by simp;omega) _))
 have X0:Hid (cC ((((((w.alloc (.cells #[.slice a l.length c] 24)).alloc (.cells #[.string (str nm)] 9)).alloc (.cells #[.string (str p)] 9)).alloc (.cells #[.slice da dn dc] 22)).alloc (.cells #[.int .i64 k] 2)).alloc (.cells #[.int .i64 0,.int .i64 0,.slice none 0 0] 28)) (w.heap.size+5) (.int .i64 0) (.int .i64 0) (.slice none 0 0)):=aA (by
  have h9:=cC.new ((((((w.alloc (.cells #[.slice a l.length c] 24)).alloc (.cells #[.string (str nm)] 9)).alloc (.cells #[.string (str p)] 9)).alloc (.cells #[.slice da dn dc] 22)).alloc (.cells #[.int .i64 k] 2))) (.int .i64 0) (.int .i64 0) (.slice none 0 0) 28;simp only[World.size_alloc]at h9;exact h9)
 have HCELL:Hid (((((((w.alloc (.cells #[.slice a l.length c] 24)).alloc (.cells #[.string (str nm)] 9)).alloc (.cells #[.string (str p)] 9)).alloc (.cells #[.slice da dn dc] 22)).alloc (.cells #[.int .i64 k] 2)).alloc (.cells #[.int .i64 0,.int .i64 0,.slice none 0 0] 28)).cell? ⟨w.heap.size,0,none⟩=some (.slice a l.length c)∧((((((w.alloc (.cells #[.slice a l.length c] 24)).alloc (.cells #[.string (str nm)] 9)).alloc (.cells #[.string (str p)] 9)).alloc (.cells #[.slice da dn dc] 22)).alloc (.cells #[.int .i64 k] 2)).alloc (.cells #[.int .i64 0,.int .i64 0,.slice none 0 0] 28)).cell? ⟨w.heap.size+1,0,none⟩=some (.string (str nm))∧((((((w.alloc (.cells #[.slice a l.length c] 24)).alloc (.cells #[.string (str nm)] 9)).alloc (.cells #[.string (str p)] 9)).alloc (.cells #[.slice da dn dc] 22)).alloc (.cells #[.int .i64 k] 2)).alloc (.cells #[.int .i64 0,.int .i64 0,.slice none 0 0] 28)).cell? ⟨w.heap.size+2,0,none⟩=some (.string (str p))∧((((((w.alloc (.cells #[.slice a l.length c] 24)).alloc (.cells #[.string (str nm)] 9)).alloc (.cells #[.string (str p)] 9)).alloc (.cells #[.slice da dn dc] 22)).alloc (.cells #[.int .i64 k] 2)).alloc (.cells #[.int .i64 0,.int .i64 0,.slice none 0 0] 28)).cell? ⟨w.heap.size+3,0,none⟩=some (.slice da dn dc)∧((((((w.alloc (.cells #[.slice a l.length c] 24)).alloc (.cells #[.string (str nm)] 9)).alloc (.cells #[.string (str p)] 9)).alloc (.cells #[.slice da dn dc] 22)).alloc (.cells #[.int .i64 k] 2)).alloc (.cells #[.int .i64 0,.int .i64 0,.slice none 0 0] 28)).cell? ⟨w.heap.size+4,0,none⟩=some (.int .i64 k)):=aA (by refine ⟨?_,?_,?_,?_,?_⟩ <;> (first | (go_simp;done) | (simp[go_sem];done) | (simp[World.cell?,World.alloc];done)))
 have HSF:=aA (fun (u:World) (hu:Below w.heap.size w u)=>eA a c l.length l u (h.below hu) rfl hl hs)
 have hz2:(snF l != 0)=true:=by simp;exact hz
 clear h hs hz;generalize snF l=q at *;go_enter Tryz.func7,Tryz.ntmps7;obtain ⟨c0,c1,c2,c3,c4⟩:=HCELL.out;go_wp2_with fail
 have hsz0:((((((w.alloc (.cells #[.slice a l.length c] 24)).alloc (.cells #[.string (str nm)] 9)).alloc (.cells #[.string (str p)] 9)).alloc (.cells #[.slice da dn dc] 22)).alloc (.cells #[.int .i64 k] 2)).alloc (.cells #[.int .i64 0,.int .i64 0,.slice none 0 0] 28)).heap.size=w.heap.size+6:=by simp
 clear c0 c1 c2 c3 c4;generalize (((((w.alloc (.cells #[.slice a l.length c] 24)).alloc (.cells #[.string (str nm)] 9)).alloc (.cells #[.string (str p)] 9)).alloc (.cells #[.slice da dn dc] 22)).alloc (.cells #[.int .i64 k] 2)).alloc (.cells #[.int .i64 0,.int .i64 0,.slice none 0 0] 28)=W0 at *;refine (HSF.out _ B0.out).mono ?_;rintro r w1 ⟨rfl,hb1⟩;have B1:=aA (aB B0.out hb1);have X1:=aA (X0.out.below hb1);have hs1:=hb1.size;obtain ⟨⟨t0,t1,t2⟩,t3,t4,t5⟩:=X1.out;clear hb1;go_wp2_with fail
 exact bodyPost_ret (v:=.agg #[.int .i64 q,.int .i64 0,.slice none 0 0]) (by simp[results,Tryz.results7,go_sem,t0,t1,t2]) rfl (iA.of (B:=w1.heap.size) (by omega) (by omega) rfl (mE.nil _ _ _) B1.out)
theorem wT (a:Option Addr) (c n:Nat) (l:List Sn) (nm p:Bs) (da:Option Addr) (dn dc:Nat) (zs:List Int) (k:Int) (w:World) (h:RdS w a l) (hn:n=l.length) (hR:aW l) (hs:cD l) (hk:k<1∨3<k) :
  Calls Tryz.prog 7 #[.slice a n c,.string (str nm),.string (str p),.slice da dn dc,.int .i64 k] w (iA 1 0 [] w):=by
 subst hn;have hl:=hR.len;have B0:Hid (Below w.heap.size w ((((((w.alloc (.cells #[.slice a l.length c] 24)).alloc (.cells #[.string (str nm)] 9)).alloc (.cells #[.string (str p)] 9)).alloc (.cells #[.slice da dn dc] 22)).alloc (.cells #[.int .i64 k] 2)).alloc (.cells #[.int .i64 0,.int .i64 0,.slice none 0 0] 28))):=aA ((((((((Below.refl w.heap.size w).alloc (Nat.le_refl _) _).alloc (by simp) _).alloc (by simp;omega) _).alloc (by simp;omega) _).alloc (by simp;omega) _).alloc (by simp;omega) _))
 have X0:Hid (cC ((((((w.alloc (.cells #[.slice a l.length c] 24)).alloc (.cells #[.string (str nm)] 9)).alloc (.cells #[.string (str p)] 9)).alloc (.cells #[.slice da dn dc] 22)).alloc (.cells #[.int .i64 k] 2)).alloc (.cells #[.int .i64 0,.int .i64 0,.slice none 0 0] 28)) (w.heap.size+5) (.int .i64 0) (.int .i64 0) (.slice none 0 0)):=aA (by
  have h9:=cC.new ((((((w.alloc (.cells #[.slice a l.length c] 24)).alloc (.cells #[.string (str nm)] 9)).alloc (.cells #[.string (str p)] 9)).alloc (.cells #[.slice da dn dc] 22)).alloc (.cells #[.int .i64 k] 2))) (.int .i64 0) (.int .i64 0) (.slice none 0 0) 28;simp only[World.size_alloc]at h9;exact h9)
 have HCELL:Hid (((((((w.alloc (.cells #[.slice a l.length c] 24)).alloc (.cells #[.string (str nm)] 9)).alloc (.cells #[.string (str p)] 9)).alloc (.cells #[.slice da dn dc] 22)).alloc (.cells #[.int .i64 k] 2)).alloc (.cells #[.int .i64 0,.int .i64 0,.slice none 0 0] 28)).cell? ⟨w.heap.size,0,none⟩=some (.slice a l.length c)∧((((((w.alloc (.cells #[.slice a l.length c] 24)).alloc (.cells #[.string (str nm)] 9)).alloc (.cells #[.string (str p)] 9)).alloc (.cells #[.slice da dn dc] 22)).alloc (.cells #[.int .i64 k] 2)).alloc (.cells #[.int .i64 0,.int .i64 0,.slice none 0 0] 28)).cell? ⟨w.heap.size+1,0,none⟩=some (.string (str nm))∧((((((w.alloc (.cells #[.slice a l.length c] 24)).alloc (.cells #[.string (str nm)] 9)).alloc (.cells #[.string (str p)] 9)).alloc (.cells #[.slice da dn dc] 22)).alloc (.cells #[.int .i64 k] 2)).alloc (.cells #[.int .i64 0,.int .i64 0,.slice none 0 0] 28)).cell? ⟨w.heap.size+2,0,none⟩=some (.string (str p))∧((((((w.alloc (.cells #[.slice a l.length c] 24)).alloc (.cells #[.string (str nm)] 9)).alloc (.cells #[.string (str p)] 9)).alloc (.cells #[.slice da dn dc] 22)).alloc (.cells #[.int .i64 k] 2)).alloc (.cells #[.int .i64 0,.int .i64 0,.slice none 0 0] 28)).cell? ⟨w.heap.size+3,0,none⟩=some (.slice da dn dc)∧((((((w.alloc (.cells #[.slice a l.length c] 24)).alloc (.cells #[.string (str nm)] 9)).alloc (.cells #[.string (str p)] 9)).alloc (.cells #[.slice da dn dc] 22)).alloc (.cells #[.int .i64 k] 2)).alloc (.cells #[.int .i64 0,.int .i64 0,.slice none 0 0] 28)).cell? ⟨w.heap.size+4,0,none⟩=some (.int .i64 k)):=aA (by refine ⟨?_,?_,?_,?_,?_⟩ <;> (first | (go_simp;done) | (simp[go_sem];done) | (simp[World.cell?,World.alloc];done)))
 have HSF:=aA (fun (u:World) (hu:Below w.heap.size w u)=>eA a c l.length l u (h.below hu) rfl (by omega) hs)
 rw[kH.2 hR]at HSF;clear h hs hR;go_enter Tryz.func7,Tryz.ntmps7;obtain ⟨c0,c1,c2,c3,c4⟩:=HCELL.out;go_wp2_with fail
 have hsz0:((((((w.alloc (.cells #[.slice a l.length c] 24)).alloc (.cells #[.string (str nm)] 9)).alloc (.cells #[.string (str p)] 9)).alloc (.cells #[.slice da dn dc] 22)).alloc (.cells #[.int .i64 k] 2)).alloc (.cells #[.int .i64 0,.int .i64 0,.slice none 0 0] 28)).heap.size=w.heap.size+6:=by simp
 clear c0 c1 c2 c3 c4;generalize (((((w.alloc (.cells #[.slice a l.length c] 24)).alloc (.cells #[.string (str nm)] 9)).alloc (.cells #[.string (str p)] 9)).alloc (.cells #[.slice da dn dc] 22)).alloc (.cells #[.int .i64 k] 2)).alloc (.cells #[.int .i64 0,.int .i64 0,.slice none 0 0] 28)=W0 at *;refine (HSF.out _ B0.out).mono ?_;rintro r w1 ⟨rfl,hb1⟩;have B1:=aA (aB B0.out hb1);have X1:=aA (X0.out.below hb1);have hs1:=hb1.size;have key:∀ {b o:Nat} {v:Value},W0.cell? ⟨b,o,none⟩=some v→w1.cell? ⟨b,o,none⟩=some v:=fun {b o v} hv=>(hb1.cell (p:=⟨b,o,none⟩) (World.block_lt_of_cell? W0 ⟨b,o,none⟩ hv)).trans hv
 obtain ⟨c0,c1,c2,c3,c4⟩:=HCELL.out;have C1:=aA (show w1.cell? ⟨w.heap.size,0,none⟩=some (.slice a l.length c)∧w1.cell? ⟨w.heap.size+1,0,none⟩=some (.string (str nm))∧w1.cell? ⟨w.heap.size+2,0,none⟩=some (.string (str p))∧w1.cell? ⟨w.heap.size+3,0,none⟩=some (.slice da dn dc)∧w1.cell? ⟨w.heap.size+4,0,none⟩=some (.int .i64 k) from ⟨key c0,key c1,key c2,key c3,key c4⟩)
 clear hb1 key c0 c1 c2 c3 c4 HCELL X0;go_wp2_with fail
 refine (wB _).mono ?_;rintro r w2 ⟨ty,rfl,rfl⟩;have B2:=aA (aB (aC w1 (.cells #[.func (.func 63) #[] #[],.func (.func 64) #[] #[],.func (.func 66) #[] #[]] ty)) (aC _ (.cells #[.slice (some ⟨w1.heap.size,0,none⟩) 3 3] 60)));have X2:=aA (X1.out.below B2.out);have key:∀ {b o:Nat} {v:Value},w1.cell? ⟨b,o,none⟩=some v→((w1.alloc (.cells #[.func (.func 63) #[] #[],.func (.func 64) #[] #[],.func (.func 66) #[] #[]] ty)).alloc (.cells #[.slice (some ⟨w1.heap.size,0,none⟩) 3 3] 60)).cell? ⟨b,o,none⟩=some v:=fun {b o v} hv=>(B2.out.cell (p:=⟨b,o,none⟩) (World.block_lt_of_cell? w1 ⟨b,o,none⟩ hv)).trans hv
 obtain ⟨c0,c1,c2,c3,c4⟩:=C1.out;have hk4:=key c4;have h13:((w1.alloc (.cells #[.func (.func 63) #[] #[],.func (.func 64) #[] #[],.func (.func 66) #[] #[]] ty)).alloc (.cells #[.slice (some ⟨w1.heap.size,0,none⟩) 3 3] 60)).cell? ⟨w1.heap.size+1,0,none⟩=some (.slice (some ⟨w1.heap.size,0,none⟩) 3 3):=by simp
 have B3:=aA (aB B1.out B2.out);have hsz2:((w1.alloc (.cells #[.func (.func 63) #[] #[],.func (.func 64) #[] #[],.func (.func 66) #[] #[]] ty)).alloc (.cells #[.slice (some ⟨w1.heap.size,0,none⟩) 3 3] 60)).heap.size=w1.heap.size+2:=by simp
 obtain ⟨⟨t0,t1,t2⟩,t3,t4,t5⟩:=X2.out;clear key c0 c1 c2 c3 c4 C1 X1;rcases hk with hk | hk
 ·go_wp2_with fail
  exact bodyPost_ret (v:=.agg #[.int .i64 1,.int .i64 0,.slice none 0 0]) (by simp[results,Tryz.results7,go_sem,t0,t1,t2]) rfl (iA.of (B:=w1.heap.size+2) (by omega) (by omega) rfl (mE.nil _ _ _) B3.out)
 ·have hk1:¬ k<1:=by omega
  go_wp2_with fail
  exact bodyPost_ret (v:=.agg #[.int .i64 1,.int .i64 0,.slice none 0 0]) (by simp[results,Tryz.results7,go_sem,t0,t1,t2]) rfl (iA.of (B:=w1.heap.size+2) (by omega) (by omega) rfl (mE.nil _ _ _) B3.out)
theorem wU (a:Option Addr) (c n:Nat) (l:List Sn) (nm p:Bs) (da:Option Addr) (dn dc:Nat) (zs:List Int) (k:Int) (w:World) (h:RdS w a l) (hn:n=l.length) (hR:aW l) (hs:cD l) (hk:k=1∨k=2∨k=3) (ht:atS l nm=none) :
  Calls Tryz.prog 7 #[.slice a n c,.string (str nm),.string (str p),.slice da dn dc,.int .i64 k] w (iA 0 4 l w):=by
 subst hn;have hl:=hR.len;have B0:Hid (Below w.heap.size w ((((((w.alloc (.cells #[.slice a l.length c] 24)).alloc (.cells #[.string (str nm)] 9)).alloc (.cells #[.string (str p)] 9)).alloc (.cells #[.slice da dn dc] 22)).alloc (.cells #[.int .i64 k] 2)).alloc (.cells #[.int .i64 0,.int .i64 0,.slice none 0 0] 28))):=aA ((((((((Below.refl w.heap.size w).alloc (Nat.le_refl _) _).alloc (by simp) _).alloc (by simp;omega) _).alloc (by simp;omega) _).alloc (by simp;omega) _).alloc (by simp;omega) _))
 have X0:Hid (cC ((((((w.alloc (.cells #[.slice a l.length c] 24)).alloc (.cells #[.string (str nm)] 9)).alloc (.cells #[.string (str p)] 9)).alloc (.cells #[.slice da dn dc] 22)).alloc (.cells #[.int .i64 k] 2)).alloc (.cells #[.int .i64 0,.int .i64 0,.slice none 0 0] 28)) (w.heap.size+5) (.int .i64 0) (.int .i64 0) (.slice none 0 0)):=aA (by
  have h9:=cC.new ((((((w.alloc (.cells #[.slice a l.length c] 24)).alloc (.cells #[.string (str nm)] 9)).alloc (.cells #[.string (str p)] 9)).alloc (.cells #[.slice da dn dc] 22)).alloc (.cells #[.int .i64 k] 2))) (.int .i64 0) (.int .i64 0) (.slice none 0 0) 28;simp only[World.size_alloc]at h9;exact h9)
 have HCELL:Hid (((((((w.alloc (.cells #[.slice a l.length c] 24)).alloc (.cells #[.string (str nm)] 9)).alloc (.cells #[.string (str p)] 9)).alloc (.cells #[.slice da dn dc] 22)).alloc (.cells #[.int .i64 k] 2)).alloc (.cells #[.int .i64 0,.int .i64 0,.slice none 0 0] 28)).cell? ⟨w.heap.size,0,none⟩=some (.slice a l.length c)∧((((((w.alloc (.cells #[.slice a l.length c] 24)).alloc (.cells #[.string (str nm)] 9)).alloc (.cells #[.string (str p)] 9)).alloc (.cells #[.slice da dn dc] 22)).alloc (.cells #[.int .i64 k] 2)).alloc (.cells #[.int .i64 0,.int .i64 0,.slice none 0 0] 28)).cell? ⟨w.heap.size+1,0,none⟩=some (.string (str nm))∧((((((w.alloc (.cells #[.slice a l.length c] 24)).alloc (.cells #[.string (str nm)] 9)).alloc (.cells #[.string (str p)] 9)).alloc (.cells #[.slice da dn dc] 22)).alloc (.cells #[.int .i64 k] 2)).alloc (.cells #[.int .i64 0,.int .i64 0,.slice none 0 0] 28)).cell? ⟨w.heap.size+2,0,none⟩=some (.string (str p))∧((((((w.alloc (.cells #[.slice a l.length c] 24)).alloc (.cells #[.string (str nm)] 9)).alloc (.cells #[.string (str p)] 9)).alloc (.cells #[.slice da dn dc] 22)).alloc (.cells #[.int .i64 k] 2)).alloc (.cells #[.int .i64 0,.int .i64 0,.slice none 0 0] 28)).cell? ⟨w.heap.size+3,0,none⟩=some (.slice da dn dc)∧((((((w.alloc (.cells #[.slice a l.length c] 24)).alloc (.cells #[.string (str nm)] 9)).alloc (.cells #[.string (str p)] 9)).alloc (.cells #[.slice da dn dc] 22)).alloc (.cells #[.int .i64 k] 2)).alloc (.cells #[.int .i64 0,.int .i64 0,.slice none 0 0] 28)).cell? ⟨w.heap.size+4,0,none⟩=some (.int .i64 k)):=aA (by refine ⟨?_,?_,?_,?_,?_⟩ <;> (first | (go_simp;done) | (simp[go_sem];done) | (simp[World.cell?,World.alloc];done)))
 have HSF:=aA (fun (u:World) (hu:Below w.heap.size w u)=>eA a c l.length l u (h.below hu) rfl (by omega) hs)
 rw[kH.2 hR]at HSF;have HRd:=aA h;have HSM:=aA hs;have HAT:=aA ht;have hk1:¬ k<1:=by omega
 have hk3:¬ (3:Int)<k:=by omega
 clear h hs hR ht hk;go_enter Tryz.func7,Tryz.ntmps7;obtain ⟨c0,c1,c2,c3,c4⟩:=HCELL.out;go_wp2_with fail
 have hsz0:((((((w.alloc (.cells #[.slice a l.length c] 24)).alloc (.cells #[.string (str nm)] 9)).alloc (.cells #[.string (str p)] 9)).alloc (.cells #[.slice da dn dc] 22)).alloc (.cells #[.int .i64 k] 2)).alloc (.cells #[.int .i64 0,.int .i64 0,.slice none 0 0] 28)).heap.size=w.heap.size+6:=by simp
 clear c0 c1 c2 c3 c4;generalize (((((w.alloc (.cells #[.slice a l.length c] 24)).alloc (.cells #[.string (str nm)] 9)).alloc (.cells #[.string (str p)] 9)).alloc (.cells #[.slice da dn dc] 22)).alloc (.cells #[.int .i64 k] 2)).alloc (.cells #[.int .i64 0,.int .i64 0,.slice none 0 0] 28)=W0 at *;refine (HSF.out _ B0.out).mono ?_;rintro r w1 ⟨rfl,hb1⟩;have B1:=aA (aB B0.out hb1);have X1:=aA (X0.out.below hb1);have hs1:=hb1.size;have key:∀ {b o:Nat} {v:Value},W0.cell? ⟨b,o,none⟩=some v→w1.cell? ⟨b,o,none⟩=some v:=fun {b o v} hv=>(hb1.cell (p:=⟨b,o,none⟩) (World.block_lt_of_cell? W0 ⟨b,o,none⟩ hv)).trans hv
 obtain ⟨c0,c1,c2,c3,c4⟩:=HCELL.out;have C1:=aA (show w1.cell? ⟨w.heap.size,0,none⟩=some (.slice a l.length c)∧w1.cell? ⟨w.heap.size+1,0,none⟩=some (.string (str nm))∧w1.cell? ⟨w.heap.size+2,0,none⟩=some (.string (str p))∧w1.cell? ⟨w.heap.size+3,0,none⟩=some (.slice da dn dc)∧w1.cell? ⟨w.heap.size+4,0,none⟩=some (.int .i64 k) from ⟨key c0,key c1,key c2,key c3,key c4⟩)
 clear hb1 key c0 c1 c2 c3 c4 HCELL X0;go_wp2_with fail
 refine (wB _).mono ?_;rintro r w2 ⟨ty,rfl,rfl⟩;have B2:=aA (aB (aC w1 (.cells #[.func (.func 63) #[] #[],.func (.func 64) #[] #[],.func (.func 66) #[] #[]] ty)) (aC _ (.cells #[.slice (some ⟨w1.heap.size,0,none⟩) 3 3] 60)));have X2:=aA (X1.out.below B2.out);have key:∀ {b o:Nat} {v:Value},w1.cell? ⟨b,o,none⟩=some v→((w1.alloc (.cells #[.func (.func 63) #[] #[],.func (.func 64) #[] #[],.func (.func 66) #[] #[]] ty)).alloc (.cells #[.slice (some ⟨w1.heap.size,0,none⟩) 3 3] 60)).cell? ⟨b,o,none⟩=some v:=fun {b o v} hv=>(B2.out.cell (p:=⟨b,o,none⟩) (World.block_lt_of_cell? w1 ⟨b,o,none⟩ hv)).trans hv
 obtain ⟨c0,c1,c2,c3,c4⟩:=C1.out;have HCW:Hid (vX ((w1.alloc (.cells #[.func (.func 63) #[] #[],.func (.func 64) #[] #[],.func (.func 66) #[] #[]] ty)).alloc (.cells #[.slice (some ⟨w1.heap.size,0,none⟩) 3 3] 60)) w.heap.size (w.heap.size+1) (w1.heap.size+1) (w.heap.size+4) (w.heap.size+2) (w.heap.size+3) w1.heap.size a l.length c nm k p da dn dc):=aA ⟨key c0,key c1,by simp,key c4,key c2,key c3,by simp,by simp,by simp⟩
 have B3:=aA (aB B1.out B2.out);have hsz2:((w1.alloc (.cells #[.func (.func 63) #[] #[],.func (.func 64) #[] #[],.func (.func 66) #[] #[]] ty)).alloc (.cells #[.slice (some ⟨w1.heap.size,0,none⟩) 3 3] 60)).heap.size=w1.heap.size+2:=by simp
 clear key c0 c1 c2 c3 c4 C1 X1;obtain ⟨d1,d2,d3,d4,d5,d6,d7,d8,d9⟩:=HCW.out;go_wp2_with fail
 clear d1 d2 d3 d4 d5 d6 d7 d8 d9;generalize (w1.alloc (.cells #[.func (.func 63) #[] #[],.func (.func 64) #[] #[],.func (.func 66) #[] #[]] ty)).alloc (.cells #[.slice (some ⟨w1.heap.size,0,none⟩) 3 3] 60)=W2 at *;refine (zZ a c l.length l nm _ W2 (HRd.out.below B3.out) rfl (by omega) HSM.out HAT.out).mono ?_
 rintro r w3 ⟨av,cv,rfl,hG,hb3⟩;have G3:=aA hG;have B4:=aA (aB B3.out hb3);obtain ⟨⟨t0,t1,t2⟩,t3,t4,t5⟩:=X2.out.below hb3;clear hG hb3;go_wp2_with fail
 exact bodyPost_ret (v:=.agg #[.int .i64 0,.int .i64 4,.slice av _ cv]) (by simp[results,Tryz.results7,go_sem,t0,t1,t2]) rfl (iA.of (B:=W2.heap.size) (by omega) (by omega) rfl G3.out B4.out)
theorem zC (a:Option Addr) (c n:Nat) (l:List Sn) (nm p:Bs) (d:Option Addr) (dn dc:Nat) (k:Int) (w:World) (h:RdS w a l) (hn:n=l.length) (hl:l.length≤1048576) (hs:cD l) (hF:snM l≠0) :
  Calls Tryz.prog 8 #[.slice a n c,.string (str nm),.string (str p),.slice d dn dc,.int .i64 k] w (zs2 (snM l) w):=by
 subst hn;have X0:=aA (cC.new w (.int .i64 0) (.int .i64 0) (.slice none 0 0) 28);have B0:=aA (aC w (.cells #[.int .i64 0,.int .i64 0,.slice none 0 0] 28));have HC:=aA (iO a c l.length l _ (h.below B0.out) rfl hl hs);have hz:(snM l != 0)=true:=by simp;exact hF
 clear h hs hF;go_enter Tryz.func8,Tryz.ntmps8;go_wp2_with fail
 refine HC.out.mono ?_;rintro r w1 ⟨rfl,hb1⟩;have B1:=aA (aB B0.out hb1);obtain ⟨⟨t0,t1,t2⟩,t3,t4,t5⟩:=X0.out.below hb1;clear hb1;generalize snM l=q at *;go_wp2_with fail
 exact bodyPost_ret (v:=.agg #[.int .i64 q,.int .i64 0,.slice none 0 0]) (by simp[results,Tryz.results8,go_sem,t0,t1,t2]) rfl (zs2.of (Nat.le_refl _) B1.out)
theorem xX (a:Option Addr) (c n:Nat) (l:List Sn) (nm p:Bs) (d:Option Addr) (dn dc:Nat) (k:Int) (w:World) (h:RdS w a l) (hn:n=l.length) (hR:aW l) (hs:cD l) (hk:k<1∨3<k) :
  Calls Tryz.prog 8 #[.slice a n c,.string (str nm),.string (str p),.slice d dn dc,.int .i64 k] w (zs2 1 w):=by
 subst hn;have hl:=hR.len;have X0:=aA (cC.new w (.int .i64 0) (.int .i64 0) (.slice none 0 0) 28);have B0:=aA (aC w (.cells #[.int .i64 0,.int .i64 0,.slice none 0 0] 28));have HC:=aA (iO a c l.length l _ (h.below B0.out) rfl (by omega) hs)
 rw[hR.good]at HC;have HI:=aA (fun u:World=>tT k 1 3 u hk)
 clear h hs hR;go_enter Tryz.func8,Tryz.ntmps8;go_wp2_with fail
 refine HC.out.mono ?_;rintro r w1 ⟨rfl,hb1⟩;have B1:=aA (aB B0.out hb1);have X1:=aA (X0.out.below hb1);clear hb1;go_wp2_with fail
 refine (HI.out _).mono ?_;rintro r w1b ⟨rfl,hw1b⟩;have hw1c:=hw1b.symm;subst hw1c;obtain ⟨⟨t0,t1,t2⟩,t3,t4,t5⟩:=X1.out;go_wp2_with fail
 exact bodyPost_ret (v:=.agg #[.int .i64 1,.int .i64 0,.slice none 0 0]) (by simp[results,Tryz.results8,go_sem,t0,t1,t2]) rfl (zs2.of (Nat.le_refl _) B1.out)
end Go.Proofs.YtolnlfnndnpiiaaGreat
namespace Go.Proofs.YtolnlfnndnpiiaaGreat
theorem za9 {ls:List (List En)} (h:bV ls=0):eJ ls:=fun es he=>by
 have hr:=(dR.1 h).2 es he;exact ⟨by have:=hr.len;omega,cG hr⟩
theorem zph {ls:List (List En)} (h:bV ls=0):(oG ls).length≤40∧aV (oG ls):=by
 by_cases h0:mL ls=0
 ·have ht:=zhk h0
  rw[oG,if_pos h0];exact ⟨(oL.1 ht).2,(oL.1 ht).1.fit.small⟩
 ·rw[oG,if_neg h0]
  exact ⟨by simp,fun e he=>by simp at he⟩
theorem MkS.one {T U:List En} {p:Bs} {r r2:Int} {V V2:List En} (h:MkS T U p r V) (h2:MkS T U p r2 V2):r=r2∧V=V2:=by
 by_cases hm:mkS T p=0
 ·exact (h.yes hm).one (h2.yes hm)
 ·obtain ⟨a1,a2⟩:=h.no hm
  obtain ⟨b1,b2⟩:=h2.no hm;exact ⟨a1.trans b1.symm,a2.trans b2.symm⟩
theorem RmS.one {ls:List (List En)} {T U:List En} {p:Bs} {r r2:Int} {V V2:List En} (h:RmS ls T U p r V) (h2:RmS ls T U p r2 V2):r=r2∧V=V2:=by
 by_cases hm:rmS T p=0
 ·by_cases hg:aG (aJ (ls ++ [bB U p true])) p=none
  ·obtain ⟨a1,a2⟩:=h.gone hm hg
   obtain ⟨b1,b2⟩:=h2.gone hm hg;exact ⟨a1.trans b1.symm,a2.trans b2.symm⟩
  ·exact (h.white hm hg).one (h2.white hm hg)
 ·obtain ⟨a1,a2⟩:=h.no hm
  obtain ⟨b1,b2⟩:=h2.no hm;exact ⟨a1.trans b1.symm,a2.trans b2.symm⟩
theorem zag {ls:List (List En)} {U:List En} {p:Bs} {zs:List Int} {k q r q2 r2:Int} {V V2:List En} (hk:k=1∨k=2∨k=3) (h:pO ls U p zs k q r V) (h2:jK ls U p zs k q2 r2 V2):q=q2∧r=r2∧V=V2:=by
 rcases hk with rfl | rfl | rfl
 ·exact zrl (h.wri rfl) (h2.1 rfl)
 ·have h1:=h.mak rfl
  have h3:=h2.2.1 rfl;by_cases hz:bJ (ls ++ [U]) p=0
  ·obtain ⟨a1,a2⟩:=zh8 h1 hz
   obtain ⟨b1,b2⟩:=h3.good hz;exact ⟨a1.trans b1.symm,a2.one b2⟩
  ·obtain ⟨a1,a2,a3⟩:=h1.bad hz
   obtain ⟨b1,b2,b3⟩:=h3.bad hz;exact ⟨a1.trans b1.symm,a2.trans b2.symm,a3.trans b3.symm⟩
 ·have h1:=h.rem rfl
  have h3:=h2.2.2 rfl;by_cases hz:bJ (ls ++ [U]) p=0
  ·obtain ⟨a1,a2⟩:=zc9 h1 hz
   obtain ⟨b1,b2⟩:=h3.good hz;exact ⟨a1.trans b1.symm,a2.one b2⟩
  ·obtain ⟨a1,a2,a3⟩:=h1.bad hz
   obtain ⟨b1,b2,b3⟩:=h3.bad hz;exact ⟨a1.trans b1.symm,a2.trans b2.symm,a3.trans b3.symm⟩
theorem zhm {ls:List (List En)} {U:List En} {p:Bs} {zs:List Int} {k q r:Int} {V:List En} (hk:k=1∨k=2∨k=3) (h:pO ls U p zs k q r V):orI q r=q+r:=by
 have key:q=0∨r=0:=by
  rcases hk with rfl | rfl | rfl
  ·have h1:=h.wri rfl
   by_cases hz:bJ (ls ++ [U]) p=0
   ·by_cases hfc:cZ p zs=0
    ·exact .inl (zti h1 hz hfc).1
    ·exact .inr (h1.big hz hfc).2.1
   ·exact .inr (h1.bad hz).2.1
  ·have h1:=h.mak rfl
   by_cases hz:bJ (ls ++ [U]) p=0
   ·exact .inl (zh8 h1 hz).1
   ·exact .inr (h1.bad hz).2.1
  ·have h1:=h.rem rfl
   by_cases hz:bJ (ls ++ [U]) p=0
   ·exact .inl (zc9 h1 hz).1
   ·exact .inr (h1.bad hz).2.1
 unfold orI;rcases key with rfl | rfl
 ·simp
 ·by_cases h0:q=0
  ·rw[if_pos h0];omega
  ·rw[if_neg h0];omega
theorem zvi {l:List Sn} {t m:Sn} {p:Bs} {zs:List Int} {k rep q2 r2:Int} {V2:List En} (hk:k=1∨k=2∨k=3) (h:vY l t p zs k m rep) (ht:t.kind≠2) (h2:jK (eE l t) t.layer p zs k q2 r2 V2):rep=q2+r2∧m=⟨t.name,t.parent,t.kind,t.lease,V2⟩:=by
 rcases h with ⟨h0,-⟩ | ⟨-,q,r,V,hd,rfl,rfl⟩
 ·exact absurd h0 ht
 ·obtain ⟨rfl,rfl,rfl⟩:=zag hk hd h2
  exact ⟨zhm hk hd,rfl⟩
structure zyi (l:List Sn) (nm:Bs) (m:Sn):Prop where
 right:aW (bO l m)
 len:(bO l m).length=l.length
 each:∀ s∈l,∃ b,atS (bO l m) s.name=some b∧(cX (bO l m) b).length=(cX l s).length∧(s.name≠nm→cX (bO l m) b=cX l s)
 at_:atS (bO l m) nm=some m
 com:nS m=0
 comRight:aW (bO (bO l m) (rH m))
 comAt:atS (bO (bO l m) (rH m)) nm=some (rH m)
theorem zuf (l:List Sn) (s:Sn):0<(cX l s).length:=by rw[gT];simp
theorem zqb {l:List Sn} (hr:aW l) {nm p:Bs} {zs:List Int} {k:Int} {t m:Sn} (hk:k=1∨k=2∨k=3) (ht:atS l nm=some t) (h:vY l t p zs k m 0):zyi l nm m:=by
 obtain ⟨h2,V,hV,rfl⟩:=zr2 hk h;obtain ⟨htm,rfl⟩:=bW ht;have hown:=hr.own t htm;have hk1:t.kind=1:=by rcases hown.2.1 with h1 | h1;exact h1;exact absurd h1 h2
 have hch:=hr.active ht hk1;have R1:aW (bO l ⟨t.name,t.parent,t.kind,t.lease,V⟩):=oM hr ⟨hown.1,hown.2.1,eX.2 hV⟩ ht rfl (fun h3=>absurd hk1 h3)
 have A1:atS (bO l ⟨t.name,t.parent,t.kind,t.lease,V⟩) t.name=some ⟨t.name,t.parent,t.kind,t.lease,V⟩:=by rw[jN hr.rise,if_pos rfl]
 refine ⟨R1,zu8 hr.rise ht,fun s hs=>?_,A1,?_,?_,?_⟩
 ·by_cases hn:s.name=t.name
  ·have hst:s=t:=by
    have h1:=kK hr.rise hs;rw[hn,ht]at h1;exact (Option.some.inj h1).symm
   subst hst;refine ⟨_,A1,?_,fun h3=>absurd rfl h3⟩
   rw[zql hr (s:=⟨s.name,s.parent,s.kind,s.lease,V⟩) ht rfl hch,gT l s];simp
  ·have h4:=zgf hr (s:=⟨t.name,t.parent,t.kind,t.lease,V⟩) hch hs
   exact ⟨s,zfn hr _ hs hn,by rw[h4],fun _=>h4⟩
 ·simp[nS,hk1]
 ·exact oM R1 ⟨hown.1,.inr rfl,eX.2 hV⟩ A1 rfl (fun _=>by show (2:Int)≠1;decide)
 ·show atS (bO _ (rH ⟨t.name,t.parent,t.kind,t.lease,V⟩)) t.name=_
  rw[jN R1.rise];exact if_pos rfl
end Go.Proofs.YtolnlfnndnpiiaaGreat
namespace Go.Proofs.YtolnlfnndnpiiaaGreat
open Go.RowKit Go.Maps
theorem xY (a:Option Addr) (c n:Nat) (l:List Sn) (nm p:Bs) (zs:List Int) (d:Option Addr) (dn dc:Nat) (k:Int) (w:World) (h:RdS w a l) (hn:n=l.length) (hR:aW l) (hs:cD l) (hk3:k=1∨k=2∨k=3) (hpl:p.length≤1048576) (hd:aP .u8 w d zs) (hdn:dn=zs.length) (hu8:U8 zs) (hdc:zs.length≤dc) (hdl:zs.length≤1048576) (ht:atS l nm=none) :
  Calls Tryz.prog 8 #[.slice a n c,.string (str nm),.string (str p),.slice d dn dc,.int .i64 k] w (bK 0 4 l w):=by
 refine (nH a c n l nm p zs d dn dc k w h hn hR hs hk3 hpl hd hdn hu8 hdc hdl).mono ?_;rintro r w' (⟨-,hM⟩ | ⟨t,h1,-⟩)
 ·exact hM
 ·rw[ht]at h1;cases h1
theorem zD (a:Option Addr) (c n:Nat) (l:List Sn) (nm p:Bs) (zs:List Int) (d:Option Addr) (dn dc:Nat) (k:Int) (w:World) (h:RdS w a l) (hn:n=l.length) (hR:aW l) (hs:cD l) (hk3:k=1∨k=2∨k=3) (hpl:p.length≤1048576) (hd:aP .u8 w d zs) (hdn:dn=zs.length) (hu8:U8 zs) (hdc:zs.length≤dc) (hdl:zs.length≤1048576) {t m:Sn} {rep:Int} (ht:atS l nm=some t) (hP:vY l t p zs k m rep) (hrep:rep≠0) :
  Calls Tryz.prog 8 #[.slice a n c,.string (str nm),.string (str p),.slice d dn dc,.int .i64 k] w (bK 0 rep l w):=by
 refine (nH a c n l nm p zs d dn dc k w h hn hR hs hk3 hpl hd hdn hu8 hdc hdl).mono ?_;rintro r w' (⟨h1,-⟩ | ⟨t',h1,h2⟩)
 ·rw[ht]at h1;cases h1
 ·rw[ht]at h1
  obtain rfl:=Option.some.inj h1;rcases h2 with ⟨h3,hM⟩ | ⟨h3,q,r2,V,hD,h4⟩
  ·rcases hP with ⟨-,rfl⟩ | ⟨h5,-⟩
   ·exact hM
   ·exact absurd h3 h5
  ·obtain ⟨e1,-⟩:=zvi hk3 hP h3 hD
   rcases h4 with ⟨-,hM⟩ | ⟨h5,-⟩
   ·rw[e1];exact hM
   ·exact absurd (e1.trans h5) hrep
end Go.Proofs.YtolnlfnndnpiiaaGreat
namespace Go.Proofs.YtolnlfnndnpiiaaGreat
open Go.RowKit
theorem zdg (a b:Option Addr) (ca cb:Nat) (xs ys:List Int) (w:World) (ha:aP .i64 w a xs) (hb:aP .i64 w b ys) (hl:xs.length≤1048576) (hl2:ys.length≤1048576) :
  Calls Tryz.prog 127 #[.slice a xs.length ca,.slice b ys.length cb] w fun e w'=>e=.returned (.bool (xs==ys))∧∃ n,w'=w.drewN n:=by
 by_cases hlen:xs.length=ys.length
 ·have hne:((xs.length:Int) != (ys.length:Int))=false:=by simp[hlen]
  go_enter Tryz.func127,Tryz.ntmps127;go_wp2
  go_loopw [13] (fun i wr=>∃ k:Nat,k≤xs.length∧i=.int .i64 k∧xs.take k=ys.take k∧∃ n,wr=w.drewN n) (fun i _=>xs.length - (intOf i).toNat)
  case atStart=>exact ⟨0,Nat.zero_le _,rfl,rfl,0,rfl⟩
  case round =>
   obtain ⟨k,hk,rfl,htk,n,rfl⟩:=hrel;have HT:=aA htk;clear htk;by_cases hlt:k<xs.length
   ·obtain ⟨b1,o1,rfl,hb1,hc1⟩:=ha (by intro e;simp[e]at hlt)
    obtain ⟨b2,o2,rfl,hb2,hc2⟩:=hb (by intro e;rw[e]at hlen;simp at hlen;simp[hlen]at hlt)
    obtain ⟨x,hx⟩:∃ x,x=xs.getD k 0:=⟨_,rfl⟩;obtain ⟨y,hy⟩:∃ y,y=ys.getD k 0:=⟨_,rfl⟩;have c1:w.cell? ⟨b1,o1+k,none⟩=some (.int .i64 x):=by rw[hx];exact hc1 k hlt
    have c2:w.cell? ⟨b2,o2+k,none⟩=some (.int .i64 y):=by rw[hy];exact hc2 k (by omega)
    have HX:=aA hx;have HY:=aA hy;clear hc1 hc2 ha hb hx hy;have hk2:k<ys.length:=by omega
    by_cases heq:x=y
    ·have hb:(x != y)=false:=by simp[heq]
     have HE:=aA heq;clear heq;go_wp2
     go_quiet (fail)
     go_wp2
     go_roundw
     case rel=>exact ⟨k+1,by omega,by go_num,zl9 hlt hk2 HT.out (by rw[←HX.out,←HY.out];exact HE.out),_,rfl⟩
     case measure=>simp[intOf];omega
    ·have hb:(x != y)=true:=by simp[heq]
     go_wp2
     go_quiet (fail)
     go_wp2
     go_ret
     exact ⟨bQ (zme (k:=k) (by rw[←HX.out,←HY.out];exact heq)).symm,_,World.drewN_drewN _ _ _⟩
   ·go_wp2
    go_ret
    exact ⟨bQ (zfd (k:=k) (by omega) (by omega) HT.out).symm,_,rfl⟩
 ·have hne:((xs.length:Int) != (ys.length:Int))=true:=by simp;omega
  go_enter Tryz.func127,Tryz.ntmps127;go_wp2
  go_ret
  have e:(xs==ys)=false:=by simp;intro e;exact hlen (by rw[e])
  exact ⟨bQ e.symm,0,rfl⟩
theorem za6 (z y:Int) (a b:Option Addr) (ca cb:Nat) (xs ys:List Int) (w:World) (ha:aP .i64 w a xs) (hb:aP .i64 w b ys) (hl:xs.length≤1048576) (hl2:ys.length≤1048576) :
  Calls Tryz.prog 86 #[.agg #[.int .i64 z,.slice a xs.length ca],.agg #[.int .i64 y,.slice b ys.length cb]] w fun e w'=>e=.returned (.bool (decide (z=y)&&(xs==ys)))∧Below w.heap.size w w':=by
 have HB:=aA (aB (aC w (.cells #[.int .i64 z,.slice a xs.length ca] 86)) (aC _ (.cells #[.int .i64 y,.slice b ys.length cb] 86)));have HR:=aA ha;have HR2:=aA hb;clear ha hb;by_cases h:z=y
 ·have hb:(z==y)=true:=by simp[h]
  have HE:=aA (show (decide (z=y)&&(xs==ys))=(xs==ys) from by simp[h])
  clear h;rw[HE.out];obtain ⟨Z,hZ⟩:∃ Z:Bool,Z=(xs==ys):=⟨_,rfl⟩;rw[←hZ];have HZ:=aA hZ;clear hZ HE;go_enter Tryz.func86,Tryz.ntmps86;go_wp2_with fail
  refine (zdg a b ca cb xs ys _ (HR.out.below HB.out) (HR2.out.below HB.out) hl hl2).mono ?_;rintro r w1 ⟨rfl,n,rfl⟩;rw[←HZ.out];go_wp2_with fail
  cases Z
  ·go_ret
   exact ⟨rfl,below_drewN HB.out n⟩
  ·go_ret
   exact ⟨rfl,below_drewN HB.out n⟩
 ·have hb:(z==y)=false:=by simp[h]
  have HE:=aA (show (decide (z=y)&&(xs==ys))=false from by simp[h])
  clear h;rw[HE.out];go_enter Tryz.func86,Tryz.ntmps86;go_wp2_with fail
  go_ret
  exact ⟨rfl,HB.out⟩
theorem zgl (e f:En) (a b:Option Addr) (ca cb:Nat) (w:World) (ha:aP .i64 w a e.chunks) (hb:aP .i64 w b f.chunks) (hl:e.chunks.length≤1048576) (hl2:f.chunks.length≤1048576) :
  Calls Tryz.prog 48 #[.agg #[.int .i64 e.size,.slice a e.chunks.length ca,.string (str e.path),.int .i64 e.kind],.agg #[.int .i64 f.size,.slice b f.chunks.length cb,.string (str f.path),.int .i64 f.kind]] w fun r w'=>r=.returned (.bool (decide (e=f)))∧Below w.heap.size w w':=by
 have HB:=aA (aB (aC w (.cells #[.int .i64 e.size,.slice a e.chunks.length ca,.string (str e.path),.int .i64 e.kind] 88)) (aC _ (.cells #[.int .i64 f.size,.slice b f.chunks.length cb,.string (str f.path),.int .i64 f.kind] 88)));have HR:=aA ha;have HR2:=aA hb;clear ha hb;by_cases hp:e.path=f.path
 ·have hs1:=gS hp
  by_cases hk:e.kind=f.kind
  ·have hk1:(e.kind==f.kind)=true:=by simp[hk]
   have HE:=aA (show decide (e=f)=(decide (e.size=f.size)&&(e.chunks==f.chunks)) from by
    by_cases h1:e.size=f.size
    ·by_cases h2:e.chunks=f.chunks
     ·rw[decide_eq_true (En.same hp hk h1 h2)];simp[h1,h2]
     ·rw[decide_eq_false (fun x=>h2 (by rw[x]))];simp[h2]
    ·rw[decide_eq_false (fun x=>h1 (by rw[x]))];simp[h1])
   clear hp hk;generalize decide (e=f)=Z at HE ⊢;go_enter Tryz.func48,Tryz.ntmps48;go_wp2_with fail
   refine (za6 _ _ a b ca cb e.chunks f.chunks _ (HR.out.below HB.out) (HR2.out.below HB.out) hl hl2).mono ?_;rintro r w1 ⟨rfl,hb1⟩;rw[←HE.out];have HB1:=aA (aB HB.out hb1);clear hb1 HE;go_wp2_with fail
   cases Z
   ·go_ret
    exact ⟨rfl,HB1.out⟩
   ·go_ret
    exact ⟨rfl,HB1.out⟩
  ·have hk1:(e.kind==f.kind)=false:=by simp[hk]
   have HE:=aA (show decide (e=f)=false from decide_eq_false (fun x=>hk (by rw[x])))
   clear hp hk;generalize decide (e=f)=Z at HE ⊢;go_enter Tryz.func48,Tryz.ntmps48;go_wp2_with fail
   go_ret
   exact ⟨bQ HE.out.symm,HB.out⟩
 ·have hs1:=jA hp
  have HE:=aA (show decide (e=f)=false from decide_eq_false (fun x=>hp (by rw[x])))
  clear hp;generalize decide (e=f)=Z at HE ⊢;go_enter Tryz.func48,Tryz.ntmps48;go_wp2_with fail
  go_ret
  exact ⟨bQ HE.out.symm,HB.out⟩
theorem zob (e f:En) (a b:Option Addr) (ca cb:Nat) (w:World) (ha:aP .i64 w a e.chunks) (hb:aP .i64 w b f.chunks) (hl:e.chunks.length≤1048576) (hl2:f.chunks.length≤1048576) :
  Calls Tryz.prog 46 #[.agg #[.string (str e.path),.int .i64 e.kind,.int .i64 e.size,.slice a e.chunks.length ca],.agg #[.string (str f.path),.int .i64 f.kind,.int .i64 f.size,.slice b f.chunks.length cb]] w fun r w'=>r=.returned (.bool (decide (e=f)))∧Below w.heap.size w w':=by
 have HB:=aA (aB (aC w (.cells #[.string (str e.path),.int .i64 e.kind,.int .i64 e.size,.slice a e.chunks.length ca] 50)) (aC _ (.cells #[.string (str f.path),.int .i64 f.kind,.int .i64 f.size,.slice b f.chunks.length cb] 50)));have F1:=aA ((cI.new w (.string (str e.path)) (.int .i64 e.kind) (.int .i64 e.size) (.slice a e.chunks.length ca) 50).below (aC _ (.cells #[.string (str f.path),.int .i64 f.kind,.int .i64 f.size,.slice b f.chunks.length cb] 50)));have F2:=aA (cI.new (w.alloc (.cells #[.string (str e.path),.int .i64 e.kind,.int .i64 e.size,.slice a e.chunks.length ca] 50)) (.string (str f.path)) (.int .i64 f.kind) (.int .i64 f.size) (.slice b f.chunks.length cb) 50)
 have h1:(w.alloc (.cells #[.string (str e.path),.int .i64 e.kind,.int .i64 e.size,.slice a e.chunks.length ca] 50)).heap.size=w.heap.size+1:=by simp
 rw[h1]at F2;clear h1;have HR:=aA (ha.below HB.out);have HR2:=aA (hb.below HB.out);clear ha hb;obtain ⟨Z,hZ⟩:∃ Z:Bool,Z=decide (e=f):=⟨_,rfl⟩;rw[←hZ];have HZ:=aA hZ;clear hZ;go_enter Tryz.func46,Tryz.ntmps46;go_wp2_with fail
 generalize (w.alloc (.cells #[.string (str e.path),.int .i64 e.kind,.int .i64 e.size,.slice a e.chunks.length ca] 50)).alloc (.cells #[.string (str f.path),.int .i64 f.kind,.int .i64 f.size,.slice b f.chunks.length cb] 50)=W at *;have KC:Hid (∀ w':World,Below W.heap.size W w'→(w'.cell? ⟨w.heap.size,0,none⟩=some (.string (str e.path))∧w'.cell? ⟨w.heap.size,1,none⟩=some (.int .i64 e.kind)∧w'.cell? ⟨w.heap.size,2,none⟩=some (.int .i64 e.size)∧w'.cell? ⟨w.heap.size,3,none⟩=some (.slice a e.chunks.length ca))∧w'.cell? ⟨w.heap.size+1,0,none⟩=some (.string (str f.path))∧w'.cell? ⟨w.heap.size+1,1,none⟩=some (.int .i64 f.kind)∧w'.cell? ⟨w.heap.size+1,2,none⟩=some (.int .i64 f.size)∧w'.cell? ⟨w.heap.size+1,3,none⟩=some (.slice b f.chunks.length cb)):=aA (fun w' hb=>⟨F1.out.below hb,F2.out.below hb⟩)
 obtain ⟨p0,p1,p2,p3⟩:=F1.out;obtain ⟨q0,q1,q2,q3⟩:=F2.out;go_region_held3 (fun w'=>(w'.cell? ⟨w.heap.size,0,none⟩=some (.string (str e.path))∧w'.cell? ⟨w.heap.size,1,none⟩=some (.int .i64 e.kind)∧w'.cell? ⟨w.heap.size,2,none⟩=some (.int .i64 e.size)∧w'.cell? ⟨w.heap.size,3,none⟩=some (.slice a e.chunks.length ca))∧w'.cell? ⟨w.heap.size+1,0,none⟩=some (.string (str f.path))∧w'.cell? ⟨w.heap.size+1,1,none⟩=some (.int .i64 f.kind)∧w'.cell? ⟨w.heap.size+1,2,none⟩=some (.int .i64 f.size)∧w'.cell? ⟨w.heap.size+1,3,none⟩=some (.slice b f.chunks.length cb)) (first | exact KC.out _ BB3.out | exact KC.out _ BB2.out | exact KC.out _ BB1.out | go_keep)
  ((
   first
   | (go_at_call 47;refine (fY _ _ _ _ _ _ _).mono ?_;rintro r w2 ⟨rfl,hb2⟩;have BB2:=aA (aB BB1.out hb2);clear hb2)
   | (go_at_call 47;refine (fY _ _ _ _ _ _ _).mono ?_;rintro r w1 ⟨rfl,hb1⟩;have BB1:=aA ((Below.refl W.heap.size W).drew.trans hb1);clear hb1)
   | (go_at_call 48;refine (zgl e f _ _ _ _ _ (HR.out.below BB2.out) (HR2.out.below BB2.out) hl hl2).mono ?_;rintro r w3 ⟨rfl,hb3⟩;rw[←HZ.out];have BB3:=aA (aB BB2.out hb3);clear hb3)))
 go_wp2_with fail
 go_ret
 exact ⟨rfl,aB HB.out BB3.out⟩
theorem zu5 (a b:Option Addr) (c d n m:Nat) (es fs:List En) (w:World) (h:RdE w a es) (h2:RdE w b fs) (hn:n=es.length) (hm:m=fs.length) (hl:es.length≤1048576) (hl2:fs.length≤1048576) (hs:aV es) (hs2:aV fs) :
  Calls Tryz.prog 45 #[.slice a n c,.slice b m d,.func (.func 46) #[] #[]] w fun r w'=>r=.returned (.bool (decide (es=fs)))∧Below w.heap.size w w':=by
 subst hn hm;obtain ⟨Z,hZ⟩:∃ Z:Bool,Z=decide (es=fs):=⟨_,rfl⟩;rw[←hZ];have HZ:=aA hZ;clear hZ;have HA:=aA h;have HB:=aA h2;have HS:=aA hs;have HS2:=aA hs2;clear h h2 hs hs2;by_cases hlen:es.length=fs.length
 ·have hne:((es.length:Int) != (fs.length:Int))=false:=by simp[hlen]
  have HL:=aA hlen;clear hlen;go_enter Tryz.func45,Tryz.ntmps45;go_wp2_with fail
  go_loopw [17] (fun i wr=>∃ k:Nat,k≤es.length∧i=.int .i64 k∧Hid (es.take k=fs.take k)∧Hid (Below w.heap.size w wr)) (fun i _=>es.length - (intOf i).toNat)
  case atStart=>exact ⟨0,Nat.zero_le _,rfl,aA rfl,aA (Below.refl _ _)⟩
  case round =>
   obtain ⟨k,hk,rfl,HT,HW⟩:=hrel;by_cases hlt:k<es.length
   ·obtain ⟨b1,o1,e,x1,c1,rfl,hb1,he,p0,p1,p2,p3,r1⟩:=(HA.out.below HW.out).at hlt
    obtain ⟨b2,o2,f,x2,c2,rfl,hb2,hf,q0,q1,q2,q3,r2⟩:=(HB.out.below HW.out).at (show k<fs.length by have:=HL.out;omega)
    have hsm:=HS.out e (List.mem_of_getElem? he);have hsm2:=HS2.out f (List.mem_of_getElem? hf);have HX:=aA he;have HX2:=aA hf;have R1:=aA r1;have R2:=aA r2;clear he hf r1 r2;have hkl:(k:Int)<(fs.length:Int):=by have:=HL.out;omega
    have BA:=aA (aB (aC wr (.cells #[.string (str e.path),.int .i64 e.kind,.int .i64 e.size,.slice x1 e.chunks.length c1] 50)) (aC _ (.cells #[.string (str f.path),.int .i64 f.kind,.int .i64 f.size,.slice x2 f.chunks.length c2] 50)));go_wp2_with fail
    refine (zob e f _ _ _ _ _ (R1.out.below BA.out) (R2.out.below BA.out) hsm.2 hsm2.2).mono ?_;rintro r w3 ⟨rfl,hb3⟩;have HW3:=aA (aB HW.out (aB BA.out hb3));clear hb3 p0 p1 p2 p3 q0 q1 q2 q3;by_cases hef:e=f
    ·rw[decide_eq_true hef]
     have HT2:=aA (zpi HX.out HX2.out HT.out hef);clear hef;go_wp2_with fail
     go_roundw
     case rel=>exact ⟨k+1,by omega,by go_num,HT2,HW3⟩
     case measure=>simp[intOf];omega
    ·rw[decide_eq_false hef]
     have HE:=aA (show Z=false from by rw[HZ.out];exact zfo HX.out HX2.out hef)
     clear hef;go_wp2_with fail
     go_ret
     exact ⟨bQ HE.out.symm,HW3.out⟩
   ·have hke:k=es.length:=by omega
    have HE:=aA (show Z=true from by rw[HZ.out];exact decide_eq_true (zef HT.out (by omega) (by have:=HL.out;omega)))
    clear hke;go_wp2_with fail
    go_ret
    exact ⟨bQ HE.out.symm,HW.out⟩
 ·have hne:((es.length:Int) != (fs.length:Int))=true:=by simp;omega
  have HE:=aA (show Z=false from by rw[HZ.out];exact decide_eq_false (fun x=>hlen (by rw[x])))
  clear hlen;go_enter Tryz.func45,Tryz.ntmps45;go_wp2_with fail
  go_ret
  exact ⟨bQ HE.out.symm,Below.refl _ _⟩
theorem wS (a b:Option Addr) (c d n m:Nat) (es fs:List En) (w:World) (h:RdE w a es) (h2:RdE w b fs) (hn:n=es.length) (hm:m=fs.length) (hl:es.length≤1048576) (hl2:fs.length≤1048576) (hs:aV es) (hs2:aV fs) :
  Calls Tryz.prog 11 #[.slice a n c,.slice b m d] w fun r w'=>r=.returned (.bool (decide (es=fs)))∧Below w.heap.size w w':=by
 have HF:=aA (zu5 a b c d n m es fs w h h2 hn hm hl hl2 hs hs2);clear h h2 hn hm hl hl2 hs hs2;generalize decide (es=fs)=Z at HF ⊢;go_enter Tryz.func11,Tryz.ntmps11;go_wp2_with fail
 refine HF.out.mono ?_;rintro r w1 ⟨rfl,hb⟩;have HB:=aA hb;clear hb;go_wp2_with fail
 go_ret
 exact ⟨rfl,HB.out⟩
end Go.Proofs.YtolnlfnndnpiiaaGreat
