/-
  Texts put together: SnpP SnqM SnqN SnqP SnqO.
-/
import Derived.Test.YtolnlfnndnpiiaaGreatKSnaps29
import Derived.Test.YtolnlfnndnpiiaaGreatKSnaps10
import Derived.Test.YtolnlfnndnpiiaaGreatKSnaps28
import Derived.Test.YtolnlfnndnpiiaaGreatKSnaps20
import Derived.Test.YtolnlfnndnpiiaaGreatKSnaps27
import Derived.Test.YtolnlfnndnpiiaaGreatKSnaps18
import Derived.Test.YtolnlfnndnpiiaaGreatKSnaps14
set_option linter.unusedVariables false
set_option maxHeartbeats 3200000
set_option maxRecDepth 100000
namespace Go.Proofs.YtolnlfnndnpiiaaGreat
theorem wH {p:Bs} {zs:List Int} (hp:aF p=0) (hfc:cZ p zs=0):zs.length≤24:=by
 rw[cZ,if_pos hp]at hfc;by_cases hb:24<zs.length
 ·rw[if_pos hb]at hfc;cases hfc
 ·omega
theorem zti {ls:List (List En)} {U:List En} {p:Bs} {zs:List Int} {q rep:Int} {V:List En} (h:rZ ls U p zs q rep V) (hz:bJ (ls ++ [U]) p=0) (hfc:cZ p zs=0):q=0∧WrS (aJ (ls ++ [U])) U p (cV p zs) rep V:=by
 obtain ⟨ht,hU,hp,hT⟩:=nF hz;have hF:=(fU.1 hU).1;have hwv:=zq9 (oU hz).1 hp;by_cases hw:lB (ls ++ [U]) p=0
 ·obtain ⟨a1,a2,a3⟩:=h.yes hz hfc hw
  rw[hwv]at hw;have hfw:=sB hU (sW hp (wH hp hfc)) (oY ht hF hp (by rw[←hT];exact uM hw))
  rw[←a2,←a3]at hfw;exact ⟨a1,WrS.fill hw hfw⟩
 ·obtain ⟨a1,a2,a3⟩:=h.no hz hfc hw
  rw[a3,a2,hwv];rw[hwv]at hw;exact ⟨a1,WrS.stay rfl hw⟩
theorem zh8 {ls:List (List En)} {U:List En} {p:Bs} {q rep:Int} {V:List En} (h:yG ls U p q rep V) (hz:bJ (ls ++ [U]) p=0):q=0∧MkS (aJ (ls ++ [U])) U p rep V:=by
 obtain ⟨ht,hU,hp,hT⟩:=nF hz;have hF:=(fU.1 hU).1;have hwv:=zkk (oU hz).1 hp;by_cases hw:mM (ls ++ [U]) p=0
 ·obtain ⟨a1,a2,a3⟩:=h.yes hz hw
  rw[hwv]at hw;rw[zim (T:=[]) ht hU hp (by rw[←hT];exact hw)]at a2 a3
  obtain ⟨he,hep,-,-⟩:=za7 (U:=U) hp;have hfw:=sB hU he (by rw[hep];exact oY ht hF hp (by rw[←hT];exact uL hw))
  rw[←a2,←a3]at hfw;exact ⟨a1,MkS.fill hw hfw⟩
 ·obtain ⟨a1,a2,a3⟩:=h.no hz hw
  rw[a3,a2,hwv];rw[hwv]at hw;exact ⟨a1,MkS.stay rfl hw⟩
theorem zc9 {ls:List (List En)} {U:List En} {p:Bs} {q rep:Int} {V:List En} (h:tZ ls U p q rep V) (hz:bJ (ls ++ [U]) p=0):q=0∧RmS ls (aJ (ls ++ [U])) U p rep V:=by
 obtain ⟨ht,hU,hp,hT⟩:=nF hz;have hF:=(fU.1 hU).1;have hlay:=(oU hz).1;have hwv:=zfl hlay hp;have hre:fA U p=bB U p true:=za1 (fun x hx=>bM (hU.ent x hx)) hp
 have hlr:bV (ls ++ [bB U p true])=0:=dR.2 ⟨by simpa using (dR.1 hlay).1,fun es he=>by
  rcases List.mem_append.1 he with he | he
  ·exact (dR.1 hlay).2 es (List.mem_append_left _ he)
  ·simp at he;subst he;exact tJ hU hp⟩
 have hpl:=(pB (tO hlr hp)).1;by_cases hw:lZ (ls ++ [U]) p=0
 ·by_cases hg:aG (aJ (ls ++ [bB U p true])) p=none
  ·have hg2:fB (ls ++ [fA U p]) p≠0:=by rw[hre,hpl,hg];decide
   obtain ⟨a1,a2,a3⟩:=h.gone hz hw hg2;rw[hre]at a3;exact ⟨a1,⟨fun h2=>absurd (hwv.symm.trans hw) h2,fun _ _=>⟨a2,a3⟩,fun _ h2=>absurd hg h2⟩⟩
  ·have hg2:fB (ls ++ [fA U p]) p=0:=by
    rw[hre,hpl];cases hs:aG (aJ (ls ++ [bB U p true])) p with
    | none=>exact absurd hs hg
    | some x=>rfl
   obtain ⟨a1,a2,a3⟩:=h.white hz hw hg2;have hT2:iW (aJ (ls ++ [U])):=by rw[hT];exact qA ht hF
   have hx:∃ x,aG (aJ (ls ++ [U])) p=some x:=by
    have hw2:=hw;rw[hwv,zki hT2 hp]at hw2;cases hs:aG (aJ (ls ++ [U])) p with
    | none=>rw[zo3,hs]at hw2;cases hw2
    | some x=>exact ⟨x,rfl⟩
   obtain ⟨x,hx⟩:=hx;have hh:dU (dA (aJ ls) U) p=0:=by rw[←hT];exact zi4 hT2 hx
   have hfw:=sB hU (zp2 hp) (oY ht hF hp hh);have a2':rep=lJ U (hI p):=a2;have a3':V=kI U (hI p):=a3;rw[←a2',←a3']at hfw;refine ⟨a1,⟨fun h2=>absurd (hwv.symm.trans hw) h2,fun _ h2=>absurd h2 hg,fun _ _=>?_⟩⟩
   have hwr:fC (bB U p true) (hI p)=fC U (hI p):=zif hU.rise hp;show jP U (bB U p true) (hI p) rep V
   unfold jP;rw[hwr];exact hfw
 ·obtain ⟨a1,a2,a3⟩:=h.no hz hw
  rw[a3,a2,hwv];rw[hwv]at hw;exact ⟨a1,RmS.stay rfl hw⟩
structure pO (ls:List (List En)) (U:List En) (p:Bs) (zs:List Int) (k:Int) (q rep:Int) (V:List En):Prop where
 wri:k=1→rZ ls U p zs q rep V
 mak:k=2→yG ls U p q rep V
 rem:k=3→tZ ls U p q rep V
theorem qH {ls:List (List En)} {p:Bs} (hz:bJ ls p=0):∀ es∈ls,aU es:=(dR.1 (oU hz).1).2
theorem zzc {ls:List (List En)} {U:List En} {p:Bs} {zs:List Int} {k rep:Int} {V:List En} (hk:1≤k∧k≤3) (h:pO ls U p zs k 0 rep V):aU V:=by
 have h3:k=1∨k=2∨k=3:=by omega
 rcases h3 with rfl | rfl | rfl
 ·have h1:=h.wri rfl
  have hz:bJ (ls ++ [U]) p=0:=by
   by_cases hz:bJ (ls ++ [U]) p=0
   ·exact hz
   ·exact absurd (h1.bad hz).1.symm hz
  have hfc:cZ p zs=0:=by
   by_cases hfc:cZ p zs=0
   ·exact hfc
   ·exact absurd (h1.big hz hfc).1.symm hfc
  have hp:=(nF hz).2.2.1;exact zr9 (qH hz) hp (wH hp hfc) (zti h1 hz hfc).2
 ·have h1:=h.mak rfl
  have hz:bJ (ls ++ [U]) p=0:=by
   by_cases hz:bJ (ls ++ [U]) p=0
   ·exact hz
   ·exact absurd (h1.bad hz).1.symm hz
  exact zg8 (qH hz) (nF hz).2.2.1 (zh8 h1 hz).2
 ·have h1:=h.rem rfl
  have hz:bJ (ls ++ [U]) p=0:=by
   by_cases hz:bJ (ls ++ [U]) p=0
   ·exact hz
   ·exact absurd (h1.bad hz).1.symm hz
  exact zb9 (qH hz) (nF hz).2.2.1 (zc9 h1 hz).2
def orI (q rep:Int):Int:=if q=0 then rep else q
theorem zqk {q rep:Int} (h:orI q rep=0):q=0∧rep=0:=by
 unfold orI at h;by_cases hq:q=0
 ·rw[if_pos hq]at h;exact ⟨hq,h⟩
 ·rw[if_neg hq]at h;exact absurd h hq
end Go.Proofs.YtolnlfnndnpiiaaGreat
namespace Go.Proofs.YtolnlfnndnpiiaaGreat
open Go.RowKit Go.Maps
attribute [local go_sem ↓] Go.wp_at_zero Go.wp_at_succ
theorem zO (T:List En) (p:Bs):0≤dU T p∧dU T p≤9:=by
 unfold dU;split
 ·omega
 ·split
  ·omega
  ·split <;> omega
theorem sZ {O U:List En} {e:En} {rep:Int} {V:List En} (h:jP O U e rep V):0≤rep∧rep≤9:=by
 by_cases hb:12<(fC U e).length
 ·have:=(h.1 hb).1;omega
 ·have:=(h.2 hb).1;omega
theorem zui {T U:List En} {p:Bs} {e:En} {rep:Int} {V:List En} (h:WrS T U p e rep V):0≤rep∧rep≤9:=by
 have hh:=zO T p;by_cases h0:wrS T p=0
 ·exact sZ (h.yes h0)
 ·rw[(h.no h0).1]
  unfold wrS;split
  ·split
   ·split <;> omega
   ·omega
  ·omega
theorem zqh {T U:List En} {p:Bs} {rep:Int} {V:List En} (h:MkS T U p rep V):0≤rep∧rep≤9:=by
 have hh:=zO T p;by_cases h0:mkS T p=0
 ·exact sZ (h.yes h0)
 ·rw[(h.no h0).1]
  unfold mkS;split
  ·split <;> omega
  ·omega
theorem zji {ls:List (List En)} {T U:List En} {p:Bs} {rep:Int} {V:List En} (h:RmS ls T U p rep V):0≤rep∧rep≤9:=by
 by_cases h0:rmS T p=0
 ·by_cases hg:aG (aJ (ls ++ [bB U p true])) p=none
  ·have:=(h.gone h0 hg).1;omega
  ·exact sZ (h.white h0 hg)
 ·rw[(h.no h0).1]
  unfold rmS;split
  ·omega
  ·split
   ·split <;> omega
   ·omega
theorem zc7:∀ ns:List Bs,0≤fI ns∧fI ns≤9:=by
 intro ns;unfold fI
 repeat' split
 all_goals omega
theorem zd7 (p:Bs):0≤aF p∧aF p≤9:=by
 unfold aF;split
 ·omega
 ·split
  ·exact zc7 _
  ·omega
theorem sI {l:List Sn} (h:aW l) {s:Sn} (hs:s∈l):bV (eE l s ++ [s.layer])=0:=by
 rw[←gT];refine dR.2 ⟨qM h hs,fun es he=>?_⟩
 unfold cX at he;rw[List.mem_reverse,List.mem_map]at he;obtain ⟨y,hy,rfl⟩:=he;exact eX.1 (h.own y (nJ (fun s0 hs0=>by cases hs0;exact hs) y hy)).2.2
theorem zJ {l:List Sn} (h:aW l) {s:Sn} (hs:s∈l) {p:Bs} {zs:List Int} {k q rep:Int} {V:List En} (hk:k=1∨k=2∨k=3) (hD:jK (eE l s) s.layer p zs k q rep V):0≤q∧q≤9∧0≤rep∧rep≤9:=by
 have hl:=sI h hs;have ha:bJ (eE l s ++ [s.layer]) p=aF p:=by unfold bJ;rw[if_pos hl]
 have hf:=zd7 p;rcases hk with rfl | rfl | rfl
 ·have hF:=hD.1 rfl
  have hw:0≤jM (eE l s ++ [s.layer]) p zs∧jM (eE l s ++ [s.layer]) p zs≤9:=by
   unfold jM;rw[ha];split
   ·split <;> omega
   ·exact hf
  by_cases h0:jM (eE l s ++ [s.layer]) p zs=0
  ·obtain ⟨h1,h2⟩:=hF.good h0
   have:=zui h2;omega
  ·obtain ⟨h1,h2,-⟩:=hF.bad h0
   omega
 ·have hF:=hD.2.1 rfl
  rw[ha]at hF;by_cases h0:aF p=0
  ·obtain ⟨h1,h2⟩:=hF.good h0
   have:=zqh h2;omega
  ·obtain ⟨h1,h2,-⟩:=hF.bad h0
   omega
 ·have hF:=hD.2.2 rfl
  rw[ha]at hF;by_cases h0:aF p=0
  ·obtain ⟨h1,h2⟩:=hF.good h0
   have:=zji h2;omega
  ·obtain ⟨h1,h2,-⟩:=hF.bad h0
   omega
theorem zdd {l:List Sn} (h:aW l) {s:Sn} (hs:s∈l) {p:Bs} {zs:List Int} {k q rep:Int} {V:List En} (hk:k=1∨k=2∨k=3) (hD:jK (eE l s) s.layer p zs k q rep V):IntKind.i64.wrap (q+rep)=q+rep:=by
 have:=zJ h hs hk hD;simp[IntKind.wrap,IntKind.signed,IntKind.bits];omega
theorem nH (a:Option Addr) (c n:Nat) (l:List Sn) (nm p:Bs) (zs:List Int) (d:Option Addr) (dn dc:Nat) (k:Int) (w:World) (h:RdS w a l) (hn:n=l.length) (hR:aW l) (hs:cD l) (hk3:k=1∨k=2∨k=3) (hpl:p.length≤1048576) (hd:aP .u8 w d zs) (hdn:dn=zs.length) (hu8:U8 zs) (hdc:zs.length≤dc) (hdl:zs.length≤1048576) :
  Calls Tryz.prog 8 #[.slice a n c,.string (str nm),.string (str p),.slice d dn dc,.int .i64 k] w fun r w'=>(atS l nm=none∧bK 0 4 l w r w')∨∃ t,atS l nm=some t∧((t.kind=2∧bK 0 10 l w r w')∨(t.kind≠2∧∃ q rep V,jK (eE l t) t.layer p zs k q rep V∧((q+rep≠0∧bK 0 (q+rep) l w r w')∨(q+rep=0∧bK 0 0 (bO l ⟨t.name,t.parent,t.kind,t.lease,V⟩) w r w')))):=by
 subst hn;have hl:=hR.len;have X0:=aA (cC.new w (.int .i64 0) (.int .i64 0) (.slice none 0 0) 28);have B0:=aA (aC w (.cells #[.int .i64 0,.int .i64 0,.slice none 0 0] 28));have HC:=aA (iO a c l.length l _ (h.below B0.out) rfl (by omega) hs)
 rw[hR.good]at HC;have HRd:=aA h;have HRI:=aA hR.rise;have HSM:=aA hs;have HW:=aA (fun (u:World) (j:Nat) (s:Sn) (hb:Below w.heap.size w u) (hq:l[j]?=some s)=>zs7 a c l.length l s j p zs d dn dc k u (h.below hb) rfl hR hs hq hk3 hpl (hd.below hb) hdn hu8 hdc hdl (fun q rep V hD=>zdd hR (List.mem_of_getElem? hq) hk3 hD))
 have HI:=aA (fun u:World=>nC k 1 3 u (by omega) (by omega))
 clear h hs hR hd hdn;go_enter Tryz.func8,Tryz.ntmps8;go_wp2_with fail
 have hsz0:(w.alloc (.cells #[.int .i64 0,.int .i64 0,.slice none 0 0] 28)).heap.size=w.heap.size+1:=by simp
 generalize w.alloc (.cells #[.int .i64 0,.int .i64 0,.slice none 0 0] 28)=W0 at *;refine HC.out.mono ?_;rintro r w1 ⟨rfl,hb1⟩;have B1:=aA (aB B0.out hb1);have X1:=aA (X0.out.below hb1);have hs1:=hb1.size;clear hb1;go_wp2_with fail
 refine (HI.out _).mono ?_;rintro r w1b ⟨rfl,hw1b⟩;have hw1c:=hw1b.symm;subst hw1c;go_wp2_with fail
 refine (iN a c l.length l nm w1 (HRd.out.below B1.out) rfl (by omega)).mono ?_
 rintro r w2 ⟨rfl,hw2⟩;subst hw2;cases hp:plS l nm with
 | none =>
  have HN:=aA (kD hp);clear hp;simp only[dD];go_wp2_with fail
  refine (cO a c l.length l 4 w2 (HRd.out.below B1.out) rfl (by omega) HSM.out).mono ?_
  rintro r w9 ⟨av,cv,rfl,hG,hb9⟩;have G9:=aA hG;have B9:=aA (aB B1.out hb9);obtain ⟨⟨t0,t1,t2⟩,t3,t4,t5⟩:=X1.out.below hb9;clear hG hb9;go_wp2_with fail
  exact bodyPost_ret (v:=.agg #[.int .i64 0,.int .i64 4,.slice av l.length cv]) (by simp[results,Tryz.results8,go_sem,t0,t1,t2]) rfl (.inl ⟨HN.out,bK.of (B:=w2.heap.size) (by omega) (Nat.le_refl _) rfl G9.out B9.out⟩)
 | some j =>
  obtain ⟨s,hq,hat⟩:=oK hp;have hjl:=(List.getElem?_eq_some_iff.1 hq).1;obtain ⟨b2,off2,e,x2,cc2,hbb,hb2,he,d0,d1,d2,d3,d4,hr2⟩:=(HRd.out.below B1.out).at hjl;subst hbb;have heq:e=s:=by rw[hq]at he;exact (Option.some.inj he).symm
  subst heq;have HAT:=aA hat;have HQ:=aA hq;have hj0:¬ (j:Int)<0:=by omega
  have hj1:(j:Int)<(l.length:Int):=by omega
  clear hp hq hat he hr2;simp only[dD];by_cases hk:e.kind=2
  ·have hkb:(e.kind==2)=true:=by simp[hk]
   have HK:=aA hk;clear hk;go_wp2_with fail
   refine (cO _ c l.length l 10 w2 (HRd.out.below B1.out) rfl (by omega) HSM.out).mono ?_
   rintro r w9 ⟨av,cv,rfl,hG,hb9⟩;have G9:=aA hG;have B9:=aA (aB B1.out hb9);obtain ⟨⟨t0,t1,t2⟩,t3,t4,t5⟩:=X1.out.below hb9;clear hG hb9;go_wp2_with fail
   exact bodyPost_ret (v:=.agg #[.int .i64 0,.int .i64 10,.slice av l.length cv]) (by simp[results,Tryz.results8,go_sem,t0,t1,t2]) rfl (.inr ⟨e,HAT.out,.inl ⟨HK.out,bK.of (B:=w2.heap.size) (by omega) (Nat.le_refl _) rfl G9.out B9.out⟩⟩)
  ·have hkb:(e.kind==2)=false:=by simp[hk]
   have HK:=aA hk;clear hk;go_wp2_with fail
   refine (HW.out w2 j e B1.out HQ.out).mono ?_;rintro r w3 ⟨q,rep,V,hD,hres⟩;have HDo:=aA hD;clear hD;rcases hres with ⟨hz,av,cv,rfl,hG,hb3⟩ | ⟨hz,av,cv,rfl,hG,hb3⟩
   ·have HZ:=aA hz
    have G9:=aA hG;have B9:=aA (aB B1.out hb3);obtain ⟨⟨t0,t1,t2⟩,t3,t4,t5⟩:=X1.out.below hb3;obtain ⟨x,hx⟩:∃ x,x=q+rep:=⟨_,rfl⟩;rw[←hx];have HX:=aA hx;clear hG hb3 hz hx;go_wp2_with fail
    exact bodyPost_ret (v:=.agg #[.int .i64 0,.int .i64 x,.slice av l.length cv]) (by simp[results,Tryz.results8,go_sem,t0,t1,t2]) rfl (.inr ⟨e,HAT.out,.inr ⟨HK.out,q,rep,V,HDo.out,.inl ⟨HZ.out,by rw[←HX.out];exact bK.of (B:=w2.heap.size) (by omega) (Nat.le_refl _) rfl G9.out B9.out⟩⟩⟩)
   ·have HZ:=aA hz
    obtain ⟨R,hR'⟩:∃ R,R=bO l ⟨e.name,e.parent,e.kind,e.lease,V⟩:=⟨_,rfl⟩;rw[←hR']at hG ⊢;have HRR:=aA hR';have G9:=aA hG;have B9:=aA (aB B1.out hb3);obtain ⟨⟨t0,t1,t2⟩,t3,t4,t5⟩:=X1.out.below hb3;clear hG hb3 hz hR';go_wp2_with fail
    exact bodyPost_ret (v:=.agg #[.int .i64 0,.int .i64 0,.slice av R.length cv]) (by simp[results,Tryz.results8,go_sem,t0,t1,t2]) rfl (.inr ⟨e,HAT.out,.inr ⟨HK.out,q,rep,V,HDo.out,.inr ⟨HZ.out,by rw[←HRR.out];exact bK.of (B:=w2.heap.size) (by omega) (Nat.le_refl _) rfl G9.out B9.out⟩⟩⟩)
end Go.Proofs.YtolnlfnndnpiiaaGreat
namespace Go.Proofs.YtolnlfnndnpiiaaGreat
open Go.RowKit Go.Maps
theorem zed {l:List Sn} (h:aW l) {s:Sn} (hs:s∈l) {p:Bs} {zs:List Int} {k q rep:Int} {V:List En} (hk:k=1∨k=2∨k=3) (hz:q+rep=0) (hD:jK (eE l s) s.layer p zs k q rep V):aU V:=by
 have hb:=zJ h hs hk hD;have hq:q=0:=by omega
 have hl:=sI h hs;have hR:=(dR.1 hl).2;have ha:bJ (eE l s ++ [s.layer]) p=aF p:=by unfold bJ;rw[if_pos hl]
 rcases hk with rfl | rfl | rfl
 ·have hF:=hD.1 rfl
  by_cases h0:jM (eE l s ++ [s.layer]) p zs=0
  ·obtain ⟨h1,h2⟩:=hF.good h0
   unfold jM at h0;rw[ha]at h0;by_cases hp:aF p=0
   ·rw[if_pos hp]at h0
    exact zr9 hR hp (by split at h0 <;> omega) h2
   ·rw[if_neg hp]at h0;exact absurd h0 hp
  ·exact absurd ((hF.bad h0).1.symm.trans hq) h0
 ·have hF:=hD.2.1 rfl
  rw[ha]at hF;by_cases h0:aF p=0
  ·exact zg8 hR h0 (hF.good h0).2
  ·exact absurd ((hF.bad h0).1.symm.trans hq) h0
 ·have hF:=hD.2.2 rfl
  rw[ha]at hF;by_cases h0:aF p=0
  ·exact zb9 hR h0 (hF.good h0).2
  ·exact absurd ((hF.bad h0).1.symm.trans hq) h0
theorem zfa {l:List Sn} (h:aW l) {t:Sn} {nm:Bs} (ht:atS l nm=some t) {p:Bs} {zs:List Int} {k q rep:Int} {V:List En} (hk:k=1∨k=2∨k=3) (hz:q+rep=0) (hD:jK (eE l t) t.layer p zs k q rep V):aW (bO l ⟨t.name,t.parent,t.kind,t.lease,V⟩):=by
 obtain ⟨h1,h2⟩:=bW ht;have ho:=h.own t h1;have hV:=zed h h1 hk hz hD;exact oM h (s:=⟨t.name,t.parent,t.kind,t.lease,V⟩) (t:=t) ⟨ho.1,ho.2.1,eX.2 hV⟩ (by show atS l t.name=some t;rw[h2];exact ht) rfl (fun hk=>hk)
end Go.Proofs.YtolnlfnndnpiiaaGreat
namespace Go.Proofs.YtolnlfnndnpiiaaGreat
theorem zfb {l:List Sn} (h:aW l) {t:Sn} {nm:Bs} (ht:atS l nm=some t) (b:Bool):aW (bO l (zje t b))∧atS (bO l (zje t b)) nm=some (zje t b):=by
 obtain ⟨h1,h2⟩:=bW ht;have ho:=h.own t h1;refine ⟨oM h (s:=zje t b) (t:=t) ⟨ho.1,ho.2.1,ho.2.2⟩ (by show atS l t.name=some t;rw[h2];exact ht) rfl (fun hk=>hk),?_⟩
 rw[jN h.rise,if_pos (by show nm=t.name;exact h2.symm)]
end Go.Proofs.YtolnlfnndnpiiaaGreat
namespace Go.Proofs.YtolnlfnndnpiiaaGreat
open Go.RowKit Go.Maps
attribute [local go_sem ↓] Go.wp_at_zero Go.wp_at_succ
theorem aW.tiny {l:List Sn} (h:aW l):cD l:=h.small (fun s hs=>by
 rcases h.stand s hs with h1 | ⟨p,h1,-,-⟩
 ·rw[h1];simp
 ·obtain ⟨a1,a2⟩:=bW h1
  have:=(h.own p a1).1;simp only[fW,Bool.and_eq_true,decide_eq_true_eq]at this;rw[←a2];omega) (fun s hs=>cG (eX.1 (h.own s hs).2.2))
theorem zue:aW []:=kH.1 (by decide)
def yH (w:World) (r:Ending) (w':World):Prop:=∃ rep l,bK 0 rep l w r w'∧aW l
theorem ztl (a:Option Addr) (c n:Nat) (l:List Sn) (nm pa:Bs) (w:World) (h:RdS w a l) (hP:Plc a c l) (hn:n=l.length) (hR:aW l) (hn1:nm.length≤1048576) (hn2:pa.length≤1048576) :
  Calls Tryz.prog 16 #[.slice a n c,.string (str nm),.string (str pa)] w (yH w):=by
 refine (xV a c n l nm pa w h hP hn hR hR.tiny hn1 hn2).mono ?_;rintro r w' (⟨-,h1⟩ | ⟨h0,h1⟩)
 ·exact ⟨_,l,h1,hR⟩
 ·exact ⟨0,_,h1,zs1 hR (by rw[←zf4 hR];exact h0) (.inl rfl) (eX.2 zd5)⟩
theorem vZ (a:Option Addr) (c n:Nat) (l:List Sn) (nm pa:Bs) (xa:Option Addr) (xc m:Nat) (es:List En) (hm:m=es.length) (w:World) (h:RdS w a l) (hP:Plc a c l) (hn:n=l.length) (hR:aW l) (hn1:nm.length≤1048576) (hn2:pa.length≤1048576) (hx:RdE w xa es) (hz:aU es) :
  Calls Tryz.prog 138 #[.slice a n c,.string (str nm),.string (str pa),.slice xa m xc] w (yH w):=by
 refine (zq3 a c n l nm pa xa xc m es hm w h hP hn hR hR.tiny hn1 hn2 hx (by have:=hz.len;omega) (cG hz) (tW.2 hz)).mono ?_
 rintro r w' (⟨-,h1⟩ | ⟨h0,h1⟩)
 ·exact ⟨_,l,h1,hR⟩
 ·exact ⟨0,_,h1,zs1 hR (by rw[←zf4 hR];exact h0) (.inr rfl) (eX.2 hz)⟩
theorem zdo (a:Option Addr) (c n:Nat) (l:List Sn) (nm:Bs) (w:World) (h:RdS w a l) (hn:n=l.length) (hR:aW l) :
  Calls Tryz.prog 140 #[.slice a n c,.string (str nm)] w (yH w):=by
 refine (yZ a c n l nm w h hn hR hR.tiny).mono ?_;rintro r w' (⟨-,h1⟩ | ⟨t,ht,⟨-,h1⟩ | ⟨-,h1⟩⟩)
 ·exact ⟨_,l,h1,hR⟩
 ·exact ⟨_,l,h1,hR⟩
 ·obtain ⟨e1,e2⟩:=bW ht
  have ho:=hR.own t e1;exact ⟨0,_,h1,oM hR (s:=⟨t.name,t.parent,2,t.lease,t.layer⟩) (t:=t) ⟨ho.1,.inr rfl,ho.2.2⟩ (by show atS l t.name=some t;rw[e2];exact ht) rfl (fun _=>by show (2:Int)≠1;decide)⟩
theorem zeo (a:Option Addr) (c n:Nat) (l:List Sn) (nm:Bs) (b:Bool) (w:World) (h:RdS w a l) (hn:n=l.length) (hR:aW l) :
  Calls Tryz.prog 141 #[.slice a n c,.string (str nm),.bool b] w (yH w):=by
 refine (ze1 a c n l nm b w h hn hR hR.tiny).mono ?_;rintro r w' (⟨-,h1⟩ | ⟨t,ht,h1⟩)
 ·exact ⟨_,l,h1,hR⟩
 ·exact ⟨0,_,h1,(zfb hR ht b).1⟩
theorem zgo (a:Option Addr) (c n:Nat) (l:List Sn) (nm:Bs) (w:World) (h:RdS w a l) (hP:Plc a c l) (hn:n=l.length) (hR:aW l) :
  Calls Tryz.prog 142 #[.slice a n c,.string (str nm)] w (yH w):=by
 refine (zA a c n l nm w h hP hn hR hR.tiny).mono ?_;rintro r w' (⟨-,h1⟩ | ⟨t,ht,⟨-,h1⟩ | ⟨h0,h1⟩⟩)
 ·exact ⟨_,l,h1,hR⟩
 ·exact ⟨_,l,h1,hR⟩
 ·refine ⟨0,_,h1,zfi hR (fun x hx e=>?_)⟩
  have:(l.any fun s=>s.parent==t.name)=true:=List.any_eq_true.2 ⟨x,hx,by rw[e,(bW ht).2];simp⟩
  unfold xK at h0;rw[this,Bool.or_true]at h0;exact absurd h0 (by decide)
theorem zho (a:Option Addr) (c n:Nat) (l:List Sn) (nm p:Bs) (zs:List Int) (d:Option Addr) (dn dc:Nat) (k:Int) (w:World) (h:RdS w a l) (hn:n=l.length) (hR:aW l) (hk3:k=1∨k=2∨k=3) (hpl:p.length≤1048576) (hd:aP .u8 w d zs) (hdn:dn=zs.length) (hu8:U8 zs) (hdc:zs.length≤dc) (hdl:zs.length≤1048576) :
  Calls Tryz.prog 8 #[.slice a n c,.string (str nm),.string (str p),.slice d dn dc,.int .i64 k] w (yH w):=by
 refine (nH a c n l nm p zs d dn dc k w h hn hR hR.tiny hk3 hpl hd hdn hu8 hdc hdl).mono ?_;rintro r w' (⟨-,h1⟩ | ⟨t,ht,⟨-,h1⟩ | ⟨-,q,rep,V,hD,⟨-,h1⟩ | ⟨hz,h1⟩⟩⟩)
 ·exact ⟨_,l,h1,hR⟩
 ·exact ⟨_,l,h1,hR⟩
 ·exact ⟨_,l,h1,hR⟩
 ·exact ⟨0,_,h1,zfa hR ht hk3 hz hD⟩
theorem zl3 (p:Nat) (zs:List Int) (T:Int) (w:World) (h:dS w p zs T) (hu:U8 zs) (hT:T≤1000000) (hl:zs.length≤2097152) :
  Calls Tryz.prog 61 #[.pointer (some ⟨p,0,none⟩)] w fun e w'=>∃ x:Bs,e=.returned (.string (str x))∧x.length≤2∧dS w' p zs (T+1)∧aD (fun b=>b=p) w w':=by
 have hp:=h.lt;have T0:=aA (jQ.new (Q:=fun x=>x.length≤2) (w:=w) (t:=9) (vs:=[[97],[98],[99],[100],[97,97]]) (by decide))
 have HS:=aA (h.below (aC w (.cells ([[97],[98],[99],[100],[97,97]].map vS).toArray 9)));have HU:=aA hu;clear h hu;go_enter Tryz.func61,Tryz.ntmps61;go_wp2_with fail
 refine (fL p zs T 5 _ HS.out HU.out hT (by decide) (by decide) hl).mono ?_
 rintro e w1 ⟨i,rfl,r1,s1,k1⟩;have T1:=aA (T0.out.kept k1 (by omega))
 have S1:=aA s1;have K1:=aA (((aD.refl (fun b=>b=p) w).alloc (.cells ([[97],[98],[99],[100],[97,97]].map vS).toArray 9)).trans k1)
 clear s1 k1 T0 HS;obtain ⟨x,hx,hxl⟩:=T1.out.2 i (by simp;omega)
 have hb:=T1.out.1;have HX:=aA hxl;clear hxl;go_wp2_with fail
 go_ret
 exact ⟨x,rfl,HX.out,S1.out,K1.out⟩
end Go.Proofs.YtolnlfnndnpiiaaGreat
