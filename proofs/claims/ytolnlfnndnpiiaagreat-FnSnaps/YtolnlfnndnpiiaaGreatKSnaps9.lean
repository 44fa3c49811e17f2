/-
  Texts put together: SeeB OvrM SeeC SeeE SnpL SnpM SnpN SnpO.
-/
import Derived.Test.YtolnlfnndnpiiaaGreatKSnaps8
import Derived.Deep.RegionLaw
import Derived.Test.YtolnlfnndnpiiaaGreatKSnaps4
set_option linter.unusedVariables false
set_option maxHeartbeats 6400000
set_option maxRecDepth 100000
namespace Go.Proofs.YtolnlfnndnpiiaaGreat
open Go.RowKit Go.Maps
attribute [local go_sem ↓] Go.wp_at_zero Go.wp_at_succ
def RdL (w:World) (a:Option Addr) (ls:List (List En)):Prop :=
 ls≠[]→∃ (b off:Nat) (A:Nat→Option Addr) (C:Nat→Nat),a=some ⟨b,off,none⟩∧b<w.heap.size∧∀ i es,ls[i]?=some es→w.cell? ⟨b,off+i,none⟩=some (.slice (A i) es.length (C i))∧RdE w (A i) es
theorem RdL.below {w w':World} {a:Option Addr} {ls:List (List En)} (h:RdL w a ls) (hk:Below w.heap.size w w'):RdL w' a ls:=by
 intro hz;obtain ⟨b,off,A,C,e,hb,hc⟩:=h hz;refine ⟨b,off,A,C,e,Nat.lt_of_lt_of_le hb hk.size,fun i es hx=>?_⟩
 obtain ⟨c0,r⟩:=hc i es hx;exact ⟨(hk.cell (p:=⟨b,off+i,none⟩) hb).trans c0,r.below hk⟩
theorem RdL.at {w:World} {a:Option Addr} {ls:List (List En)} (h:RdL w a ls) {k:Nat} (hk:k<ls.length) :
  ∃ b off es x c,a=some ⟨b,off,none⟩∧b<w.heap.size∧ls[k]?=some es∧w.cell? ⟨b,off+k,none⟩=some (.slice x es.length c)∧RdE w x es:=by
 obtain ⟨b,off,A,C,e,hb,hc⟩:=h (by intro e;simp[e]at hk)
 have hx:ls[k]?=some ls[k]:=List.getElem?_eq_getElem hk;obtain ⟨c0,r⟩:=hc k _ hx;exact ⟨b,off,ls[k],A k,C k,e,hb,hx,c0,r⟩
def dM (ls:List (List En)) (i:Nat) (p:Bs):Option En:=(ls[i]?).bind fun es=>aG es p
theorem zjl (i:Nat) (p:Bs):dM [] i p=none:=by simp[dM]
theorem zb6 (D:List (List En)) (i:Nat) (p:Bs):dM (D ++ [[]]) i p=dM D i p:=by
 unfold dM;rcases Nat.lt_trichotomy i D.length with h | h | h
 ·rw[List.getElem?_append_left h]
 ·subst h;simp[aG]
 ·rw[List.getElem?_eq_none (by simp;omega),List.getElem?_eq_none (by omega)]
theorem zmi {D:List (List En)} {es:List En} {j:Nat} {e:En} (he:es[j]?=some e) (hn:∀ x∈es.take j,x.path≠e.path) (i:Nat) (p:Bs) :
  (if i=D.length∧p=e.path then some e else dM (D ++ [es.take j]) i p)=dM (D ++ [es.take (j+1)]) i p:=by
 unfold dM;rcases Nat.lt_trichotomy i D.length with h | h | h
 ·rw[List.getElem?_append_left h,List.getElem?_append_left h,if_neg (fun hh=>by omega)]
 ·subst h
  simp only[List.getElem?_append_right (Nat.le_refl _),Nat.sub_self,List.getElem?_cons_zero,Option.bind_some,true_and]
  rw[nM he,wK hn]
 ·rw[List.getElem?_eq_none (by simp;omega),List.getElem?_eq_none (by simp;omega),if_neg (fun hh=>by omega)]
theorem zel {es:List En} (h:dY es) {j:Nat} {e:En} (he:es[j]?=some e):∀ x∈es.take j,x.path≠e.path:=by
 intro x hx;have h2:dY (es.take (j+1)):=h.sublist (List.take_sublist _ _);rw[nM he]at h2;unfold dY at h2;rw[List.pairwise_append]at h2;exact jL (h2.2.2 x hx e (by simp))
theorem zY (a:Option Addr) (c n:Nat) (ls:List (List En)) (w:World) (h:RdL w a ls) (hn:n=ls.length) (hl:ls.length≤4) (hF:∀ es∈ls,dY es∧es.length≤12∧aV es) :
  Calls Tryz.prog 153 #[.slice a n c] w fun r w'=>∃ b N,r=.returned (.map (some b))∧w.heap.size≤b∧N≤48∧eL w w' b N (dM ls)∧Below w.heap.size w w':=by
 subst hn;have HR:=aA h;have HFt:=aA hF;clear h hF;have hmm:∀ u:World,(Instr.makeMap 167 none).run Tryz.prog u=.ok (.map (some u.heap.size)) (u.alloc (.map #[] 0)):=fun u=>by simp[Instr.makeMap,Result.andThen]
 go_enter Tryz.func153,Tryz.ntmps153;go_wp2_with fail
 go_loopw [11] (fun i wr=>∃ k N:Nat,k≤ls.length∧i=.int .i64 k∧N≤12 * k∧Hid (eL w wr w.heap.size N (dM (ls.take k)))∧Hid (Below w.heap.size w wr)) (fun i _=>ls.length - (intOf i).toNat)
 case atStart=>exact ⟨0,0,Nat.zero_le _,rfl,Nat.le_refl _,aA ((eL.made w w).congr (fun i p=>(zjl i p).symm)),aA (aC _ _)⟩
 case round =>
  obtain ⟨k,N,hk,rfl,hN,HM,HW⟩:=hrel;by_cases hlt:k<ls.length
  ·obtain ⟨b0,o0,es,x0,c0,rfl,hb0,hes,cc0,hre⟩:=HR.out.at hlt
   have cw:=(HW.out.cell (p:=⟨b0,o0+k,none⟩) hb0).trans cc0;have HE:=aA hre;have HES:=aA hes;obtain ⟨hri,hle,hsm⟩:=HFt.out es (List.mem_of_getElem? hes);have HRi:=aA hri;have HSm:=aA hsm;clear hes cc0 hre hri hsm;have hkl:(ls.take k).length=k:=by rw[List.length_take];omega
   go_wp2_with fail
   go_loopw [18] (fun i w2=>∃ j N2:Nat,j≤es.length∧i=.int .i64 j∧N2≤12 * k+j∧Hid (eL w w2 w.heap.size N2 (dM (ls.take k ++ [es.take j])))∧Hid (Below w.heap.size w w2)) (fun i _=>es.length - (intOf i).toNat)
   case atStart=>exact ⟨0,N,Nat.zero_le _,rfl,by omega,aA (HM.out.congr (fun i p=>(zb6 _ i p).symm)),HW⟩
   case round =>
    obtain ⟨j,N2,hj,rfl,hN2,HM2,HW2⟩:=hrel;by_cases hjl:j<es.length
    ·obtain ⟨b,off,e,x,cc,rfl,hb,he,c0,c1,c2,c3,hr⟩:=HE.out.at hjl
     have c0:=(HW2.out.cell (p:=⟨b,off+j * 4,none⟩) hb).trans c0;have c1:=(HW2.out.cell (p:=⟨b,off+j * 4+1,none⟩) hb).trans c1;have c2:=(HW2.out.cell (p:=⟨b,off+j * 4+2,none⟩) hb).trans c2;have c3:=(HW2.out.cell (p:=⟨b,off+j * 4+3,none⟩) hb).trans c3;have HX:=aA he;have HRc:=aA hr;have hsm:=(HSm.out e (List.mem_of_getElem? he)).1;have HNew:=aA (zel HRi.out he);clear he hr;have BA:=aA ((aC wr (.cells #[.string (str e.path),.int .i64 e.kind,.int .i64 e.size,.slice x e.chunks.length cc] 50)).drew);have F4:Hid (cI (wr.alloc (.cells #[.string (str e.path),.int .i64 e.kind,.int .i64 e.size,.slice x e.chunks.length cc] 50)).drew wr.heap.size _ _ _ _):=aA (cI.new wr (.string (str e.path)) (.int .i64 e.kind) (.int .i64 e.size) (.slice x e.chunks.length cc) 50)
     go_wp2_with fail
     go_region_law
      (go_simp;go_wp2_with (go_at_call 47;refine (fY _ _ _ _ _ _ _).mono ?_;rintro r w3 ⟨rfl,hb3⟩;have BB3:=aA (aB BA.out hb3);obtain ⟨f0,f1,f2,f3⟩:=F4.out.below hb3;obtain ⟨Dt,hown,hput⟩:=(HM2.out.below BB3.out).put (i:=k) (p:=e.path) (e:=e) (c:=cc) (by omega) hsm HRc.out;obtain ⟨w4,hrun,r1,r2⟩:=hown.update gE Tryz.underlying167 (by unfold maxLen;omega) (mD (i:=k) (p:=e.path) (by omega) hsm) (val:=itV e x cc) rfl;have HP4:=aA (hput w4 r1);have HG4:=aA r2;clear hb3 hown hput r1 r2;unfold gO itV at hrun))
     all_goals
      have HN4:Hid (eL w w4 w.heap.size (N2+1) (dM (ls.take k ++ [es.take (j+1)]))):=aA (HP4.out.congr (fun i p=>by have:=zmi (D:=ls.take k) HX.out HNew.out i p;rw[hkl]at this;exact this))
      have B4:=aA ((aB HW2.out BB3.out).trans ((xU HG4.out).below (Nat.le_trans HW2.out.size BB3.out.size) (fun q hq e=>by omega)))
      go_wp2_with fail
      go_roundw
      case rel=>exact ⟨j+1,N2+1,by omega,by go_num,by omega,HN4,B4⟩
      case measure=>simp[intOf];omega
    ·have HE2:=aA (show es.take j=es from List.take_of_length_le (by omega))
     go_wp2_with fail
     go_roundw
     case rel=>exact ⟨k+1,N2,by omega,by go_num,by omega,aA (HM2.out.congr (fun i p=>by rw[HE2.out,nM HES.out])),HW2⟩
     case measure=>simp[intOf];omega
  ·have HE:=aA (show ls.take k=ls from List.take_of_length_le (by omega))
   go_wp2_with fail
   go_ret
   exact ⟨_,N,rfl,Nat.le_refl _,by omega,by have:=HM.out;rw[HE.out]at this;exact this,HW.out⟩
theorem iM {es:List En} {p:Bs} (h:atE es p=none):aG es p=none:=by rw[oV,h];rfl
theorem lT {es:List En} {p:Bs} {k:Nat} (h:atE es p=some k):∃ e,es[k]?=some e∧aG es p=some e:=by
 have hk:=pQ h;obtain ⟨e,he⟩:∃ e,es[k]?=some e:=⟨_,List.getElem?_eq_getElem hk⟩;exact ⟨e,he,by rw[oV,h];exact he⟩
theorem zG {p:Bs} (hp:aF p=0):∀ u∈bG p,u.length≤p.length:=by
 intro u hu;have hb:fD p u=true:=by simpa [fD] using hu
 rw[lU hp]at hb;have:=dZ (of_decide_eq_true hb).2;omega
theorem uU (a:Option Addr) (c n:Nat) (es:List En) (p:Bs) (w:World) (h:RdE w a es) (hn:n=es.length) (hl:es.length≤1048576) (hp:aF p=0) (hpl:p.length≤1048576) :
  Calls Tryz.prog 248 #[.slice a n c,.string (str p)] w fun r w'=>r=.returned (.int .i64 (eB es (bG p)))∧Below w.heap.size w w':=by
 subst hn;have HR:=aA h;have hsz:=aK p;have h1:1≤(str p).size:=nW (by rw[aT];exact hp)
 have HU:=aA (show bR (aX (str p).data.toList.tail)=bG p from by rw[aT,fG hp])
 have HUl:=aA (pP p);clear h hp;generalize bG p=ups at *;go_enter Tryz.func248,Tryz.ntmps248;go_wp2_with fail
 refine (pH (str p) _ h1 (by omega)).mono ?_
 rintro r w1 ⟨v,rfl,ho,hb1⟩;rw[HU.out]at ho;obtain ⟨av,cv,rfl⟩:=bH ho;have RU:=aA (cT.reads ho);have B1:=aA hb1;clear ho hb1 HU;go_wp2_with fail
 go_loopw [5,7] (fun v i wr=>∃ k:Nat,k≤ups.length∧v=.int .i64 (eB es (ups.take k))∧i=.int .i64 k∧Hid (eB es (ups.take k)≠2)∧Hid (Below w1.heap.size w1 wr)) (fun _ i _=>ups.length - (intOf i).toNat)
 case atStart=>exact ⟨0,Nat.zero_le _,rfl,rfl,aA (by simp[eB]),aA (Below.refl _ _)⟩
 case round =>
  obtain ⟨k,hk,rfl,rfl,HN2,HW⟩:=hrel;have hul:=HUl.out;by_cases hlt:k<ups.length
  ·obtain ⟨b,off,rfl,hb,hc⟩:=(RU.out.below HW.out) (by intro e;simp[e]at hlt)
   have q0:=hc k hlt;have hx:ups[k]?=some (ups.getD k []):=by rw[List.getD_eq_getElem?_getD,List.getElem?_eq_getElem hlt];rfl
   clear hc;generalize ups.getD k []=u at *;have HX:=aA hx;clear hx;have HE:=aA ((HR.out.below B1.out).below HW.out);have HAT:=aA (iZ a c es.length es u wr HE.out rfl hl);cases ha:atE es u with
   | none =>
    have HZ:=aA (sK HX.out HN2.out (by rw[sM (iM ha)];decide))
    have HZ2:=aA (rO HX.out HN2.out (by rw[sM (iM ha)];decide))
    rw[sM (iM ha)]at HZ;rw[ha]at HAT;have e1:dD none = -1:=rfl;rw[e1]at HAT;clear ha e1;go_wp2_with fail
    refine HAT.out.mono ?_;rintro r w2 ⟨rfl,rfl⟩;clear q0;go_wp2_with fail
    go_roundw
    case rel=>exact ⟨k+1,by omega,by rw[HZ.out];rfl,by go_num,HZ2,HW⟩
    case measure=>simp[intOf];omega
   | some m =>
    obtain ⟨e,he,hf⟩:=lT ha;have hm:=pQ ha;rw[ha]at HAT;have e1:dD (some m)=(m:Int):=rfl;rw[e1]at HAT;obtain ⟨bb,off2,e',x,cc,rfl,hb2,he',c0,c1,c2,c3,hr⟩:=HE.out.at hm;have:e'=e:=Option.some.inj (he'.symm.trans he);subst this;have hk0:¬ (m:Int)<0:=by omega
    have hk2:(0:Int)≤(m:Int):=by omega
    have hk1:(m:Int)<(es.length:Int):=by omega
    clear ha e1 he he' hr c0 c2 c3;by_cases h3:e'.kind=3
    ·have HZ:=aA (vR HX.out (zw8 hf (Or.inl h3)))
     have h3':(e'.kind==3)=true:=by simpa using h3
     clear h3 hf;go_wp2_with fail
     refine HAT.out.mono ?_;rintro r w2 ⟨rfl,rfl⟩;go_wp2_with fail
     go_ret
     exact ⟨by rw[HZ.out];rfl,aB B1.out HW.out⟩
    ·have h3':(e'.kind==3)=false:=by simpa using h3
     by_cases h1k:e'.kind=1
     ·have HZ:=aA (vR HX.out (zw8 hf (Or.inr h1k)))
      have h1':(e'.kind==1)=true:=by simpa using h1k
      clear h3 h1k hf;go_wp2_with fail
      refine HAT.out.mono ?_;rintro r w2 ⟨rfl,rfl⟩;go_wp2_with fail
      go_ret
      exact ⟨by rw[HZ.out];rfl,aB B1.out HW.out⟩
     ·have h1':(e'.kind==1)=false:=by simpa using h1k
      by_cases h4:e'.kind=4
      ·have hrk:=zal hf h4
       have HZ:=aA (sK HX.out HN2.out (by rw[hrk];decide))
       have HZ2:=aA (rO HX.out HN2.out (by rw[hrk];decide))
       rw[hrk]at HZ;have h4':(e'.kind==4)=true:=by simpa using h4
       clear h3 h1k h4 hf hrk;go_wp2_with fail
       refine HAT.out.mono ?_;rintro r w2 ⟨rfl,rfl⟩;go_wp2_with fail
       go_roundw
       case rel=>exact ⟨k+1,by omega,by rw[HZ.out];rfl,by go_num,HZ2,HW⟩
       case measure=>simp[intOf];omega
      ·have h4':(e'.kind==4)=false:=by simpa using h4
       have hrk:=zzk hf h1k h3 h4;have HZ:=aA (sK HX.out HN2.out (by rw[hrk];decide))
       have HZ2:=aA (rO HX.out HN2.out (by rw[hrk];decide))
       rw[hrk]at HZ;clear h3 h1k h4 hf hrk;go_wp2_with fail
       refine HAT.out.mono ?_;rintro r w2 ⟨rfl,rfl⟩;go_wp2_with fail
       go_roundw
       case rel=>exact ⟨k+1,by omega,by rw[HZ.out];rfl,by go_num,HZ2,HW⟩
       case measure=>simp[intOf];omega
  ·have HE:=aA (show ups.take k=ups from List.take_of_length_le (by omega))
   go_wp2_with fail
   go_ret
   exact ⟨by rw[HE.out];rfl,aB B1.out HW.out⟩
theorem zxg (b N i:Nat) (p:Bs) (S:Nat→Bs→Option En) (w0 w:World) (h:eL w0 w b N S) (hi:i≤100) (hp:p.length≤1048576) :
  Calls Tryz.prog 242 #[.map (some b),.int .i64 i,.string (str p)] w fun r w'=>r=.returned (.bool ((S i p).any fun e=>!decide (e.kind=2)))∧Below w.heap.size w w':=by
 cases hS:S i p with
 | none =>
  have HL:=aA (h.no hi hp hS);clear h hS;go_enter Tryz.func242,Tryz.ntmps242;go_wp2_with (at_lookup;refine iQ rfl _ _ 167 true rfl _ _ _ rfl rfl HL.out ?_)
  go_ret
  exact ⟨rfl,aC _ _⟩
 | some e =>
  obtain ⟨x,cc,hl,-,-⟩:=h.yes hi hp hS;have HL:=aA hl;clear h hS hl;by_cases hk:e.kind=2
  ·have hk':(e.kind==2)=true:=by simpa using hk
   have HV:=aA (show ((some e).any fun e=>!decide (e.kind=2))=(e.kind != 2) by simp[hk])
   clear hk hk';unfold itV at HL;go_enter Tryz.func242,Tryz.ntmps242;go_wp2_with (at_lookup;refine iQ rfl _ _ 167 true rfl _ _ _ rfl rfl HL.out ?_)
   go_ret
   exact ⟨bQ HV.out.symm,aC _ _⟩
  ·have hk':(e.kind==2)=false:=by simpa using hk
   have HV:=aA (show ((some e).any fun e=>!decide (e.kind=2))=(e.kind != 2) by simp[hk])
   clear hk hk';unfold itV at HL;go_enter Tryz.func242,Tryz.ntmps242;go_wp2_with (at_lookup;refine iQ rfl _ _ 167 true rfl _ _ _ rfl rfl HL.out ?_)
   go_ret
   exact ⟨bQ HV.out.symm,aC _ _⟩
def znc (W0:World) (fn:FuncId) (cap:Array Value) (f:Bs→Bool):Prop :=
 (∀ args w,(callFunc fn args).run Tryz.prog w=.ok (.enter fn args) w)∧∀ (s:Bs) (w:World),s.length≤1048576→Below W0.heap.size W0 w →
  Calls Tryz.prog fn (#[.string (str s)]++cap) w fun r w'=>r=.returned (.bool (f s))∧Below w.heap.size w w'
theorem zf3 (a:Option Addr) (c n:Nat) (ps:List Bs) (fn:FuncId) (cap:Array Value) (f:Bs→Bool) (w:World) (h:bX w a ps) (hn:n=ps.length) (hl:ps.length≤1048576) (hs:∀ p∈ps,p.length≤1048576) (hf:znc w fn cap f) :
  Calls Tryz.prog 259 #[.slice a n c,.func (.func fn) #[] cap] w fun r w'=>((∃ k:Nat,r=.returned (.int .i64 k)∧ps.any f=true)∨(r=.returned (.int .i64 (-1))∧ps.any f=false))∧Below w.heap.size w w':=by
 subst hn;have eg:=hf.1;have HF:=aA hf;have HR:=aA h;have HS:=aA hs;clear h hf hs;go_enter Tryz.func259,Tryz.ntmps259;go_wp2_with fail
 go_loopw [8] (fun i wr=>∃ k:Nat,k≤ps.length∧i=.int .i64 k∧Hid (ps.any f=(ps.drop k).any f)∧Hid (Below w.heap.size w wr)) (fun i _=>ps.length - (intOf i).toNat)
 case atStart=>exact ⟨0,Nat.zero_le _,rfl,aA (by simp),aA (Below.refl _ _)⟩
 case round =>
  obtain ⟨k,hk,rfl,HFi,HW⟩:=hrel;by_cases hlt:k<ps.length
  ·obtain ⟨b,off,rfl,hb,hc⟩:=(HR.out.below HW.out) (by intro e;simp[e]at hlt)
   have c0:=hc k hlt;have hx:ps[k]?=some (ps.getD k []):=by rw[List.getD_eq_getElem?_getD,List.getElem?_eq_getElem hlt];rfl
   have hd:ps.drop k=ps.getD k [] :: ps.drop (k+1):=by
    rw[List.drop_eq_getElem_cons hlt];congr 1;rw[List.getD_eq_getElem?_getD,List.getElem?_eq_getElem hlt];rfl
   have hsm:=HS.out _ (List.mem_of_getElem? hx);have HD:=aA (HFi.out.trans (by rw[hd,List.any_cons]))
   clear hc hd hx;generalize ps.getD k []=q at *;go_wp2_with fail
   refine (HF.out.2 q _ hsm HW.out).mono ?_;rintro r w3 ⟨rfl,hb3⟩;have B3:=aA (aB HW.out hb3);clear hb3 c0;cases hq:f q
   ·have HN:=aA (show ps.any f=(ps.drop (k+1)).any f by rw[HD.out,hq,Bool.false_or])
    clear hq;go_wp2_with fail
    go_roundw
    case rel=>exact ⟨k+1,by omega,by go_num,HN,B3⟩
    case measure=>simp[intOf];omega
   ·have HN:=aA (show ps.any f=true by rw[HD.out,hq,Bool.true_or])
    clear hq;go_wp2_with fail
    go_ret
    exact ⟨.inl ⟨k,rfl,HN.out⟩,B3.out⟩
  ·have HN:=aA (show ps.any f=false by rw[HFi.out,List.drop_eq_nil_of_le (by omega)];rfl)
   go_wp2_with fail
   go_ret
   exact ⟨.inr ⟨rfl,HN.out⟩,HW.out⟩
theorem yQ (a:Option Addr) (c n:Nat) (ps:List Bs) (fn:FuncId) (cap:Array Value) (f:Bs→Bool) (w:World) (h:bX w a ps) (hn:n=ps.length) (hl:ps.length≤1048576) (hs:∀ p∈ps,p.length≤1048576) (hf:znc w fn cap f) :
  Calls Tryz.prog 240 #[.slice a n c,.func (.func fn) #[] cap] w fun r w'=>r=.returned (.bool (ps.any f))∧Below w.heap.size w w':=by
 subst hn;have HC:=aA (zf3 a c ps.length ps fn cap f w h rfl hl hs hf);clear h hf hs;go_enter Tryz.func240,Tryz.ntmps240;go_wp2_with fail
 refine HC.out.mono ?_;rintro r w1 ⟨(⟨k,rfl,hi⟩ | ⟨rfl,hi⟩),hb⟩
 ·have hk0:(0:Int)≤(k:Int):=by omega
  have HI:=aA hi;have HB:=aA hb;clear hi hb HC;go_wp2_with fail
  go_ret
  exact ⟨bQ HI.out.symm,HB.out⟩
 ·have HI:=aA hi
  have HB:=aA hb;clear hi hb HC;go_wp2_with fail
  go_ret
  exact ⟨bQ HI.out.symm,HB.out⟩
theorem zk7 (b N i b1 b2:Nat) (q:Bs) (S:Nat→Bs→Option En) (w0 w:World) (h:eL w0 w b N S) (hi:i≤100) (hq:q.length≤1048576) (h1:w.cell? ⟨b1,0,none⟩=some (.map (some b))) (h2:w.cell? ⟨b2,0,none⟩=some (.int .i64 i)) :
  Calls Tryz.prog 241 #[.string (str q),.pointer (some ⟨b1,0,none⟩),.pointer (some ⟨b2,0,none⟩)] w fun r w'=>r=.returned (.bool ((S i q).any fun e=>!decide (e.kind=2)))∧Below w.heap.size w w':=by
 have HC:=aA (zxg b N i q S w0 w h hi hq);clear h;go_enter Tryz.func241,Tryz.ntmps241;go_wp2_with fail
 refine HC.out.mono ?_;rintro r w1 ⟨rfl,hb⟩;have HB:=aA hb;clear hb;go_wp2_with fail
 go_ret
 exact ⟨rfl,HB.out⟩
theorem zd3 (b N i:Nat) (p:Bs) (S:Nat→Bs→Option En) (w0 w:World) (h:eL w0 w b N S) (hi:i≤100) (hp:p.length≤1048576) :
  Calls Tryz.prog 202 #[.map (some b),.int .i64 i,.string (str p)] w fun r w'=>r=.returned (.bool ((bG p).any fun q=>(S i q).any fun e=>!decide (e.kind=2)))∧Below w.heap.size w w':=by
 have hmf:∀ (fn:Fn) (first cap:Array Value) (w:World),(Instr.makeFunc fn first cap).run Tryz.prog w=.ok (.func fn first cap) w:=fun _ _ _ _=>rfl
 have B0:=aA (aB (aC w (.cells #[.map (some b)] 167)) (aC _ (.cells #[.int .i64 i] 3)));have HM:=aA h;clear h;have hsz:=aK p;go_enter Tryz.func202,Tryz.ntmps202;go_wp2_with fail
 refine (nZ (str p) _ (by omega)).mono ?_
 rintro r w1 ⟨av,cv,rfl,ho,hb⟩;have B1:=aA (aB B0.out hb);have RS:=aA (cT.reads ho);have HM1:=aA (HM.out.below B1.out);have q1:w1.cell? ⟨w.heap.size,0,none⟩=some (.map (some b)):=(hb.cell (p:=⟨w.heap.size,0,none⟩) (by simp;omega)).trans (by simp)
 have q2:w1.cell? ⟨w.heap.size+1,0,none⟩=some (.int .i64 i):=(hb.cell (p:=⟨w.heap.size+1,0,none⟩) (by simp)).trans (by simp)
 have hsm:∀ u∈bG p,u.length≤1048576:=by
  intro u hu;by_cases hpf:aF p=0
  ·have:=zG hpf u hu;omega
  ·rw[sA hpf]at hu;simp at hu
 have HQ:Hid (znc w1 241 #[.pointer (some ⟨w.heap.size,0,none⟩),.pointer (some ⟨w.heap.size+1,0,none⟩)] (fun q=>(S i q).any fun e=>!decide (e.kind=2))) :=
  aA ⟨enters_of Tryz.func241 (by kernel_rfl) rfl,fun q w' hq hb'=>zk7 b N i w.heap.size (w.heap.size+1) q S w0 w' (HM1.out.below hb') hi hq ((hb'.cell (p:=⟨w.heap.size,0,none⟩) (World.block_lt_of_cell? w1 _ q1)).trans q1) ((hb'.cell (p:=⟨w.heap.size+1,0,none⟩) (World.block_lt_of_cell? w1 _ q2)).trans q2)⟩
 have HSD:=aA (aT p);rw[HSD.out]at RS ⊢;have hal:=pP p;have HCF:=aA (yQ av cv (bG p).length (bG p) _ _ _ w1 RS.out rfl (by omega) hsm HQ.out)
 clear ho hb q1 q2 hsm;have hfield:∀ (c v:Value) (w:World),(Instr.field 164 (.agg #[c,v]) 1).run Tryz.prog w=.ok v w:=fun c v w=>by kernel_rfl
 go_wp2_with fail
 refine HCF.out.mono ?_;rintro r w2 ⟨rfl,hb2⟩;have B2:=aA (aB B1.out hb2);clear hb2;go_wp2_with fail
 go_ret
 exact ⟨rfl,B2.out⟩
def jT:List (List En)→Int
 | []=>0
 | es :: r=>if aR es=0 then jT r else aR es
def bV (ls:List (List En)):Int:=if 4<ls.length then 2 else jT ls
theorem zU:∀ {ls:List (List En)},jT ls=0↔∀ es∈ls,aU es
 | []=>by simp[jT]
 | es :: r=>by
  have ih:=zU (ls:=r);unfold jT;by_cases h:aR es=0
  ·rw[if_pos h,ih]
   simp[eX.1 h]
  ·rw[if_neg h]
   constructor
   ·intro h2;exact absurd h2 h
   ·intro h2;exact absurd (eX.2 (h2 es (by simp))) h
theorem dR {ls:List (List En)}:bV ls=0↔ls.length≤4∧∀ es∈ls,aU es:=by
 unfold bV;by_cases h:4<ls.length
 ·rw[if_pos h];constructor
  ·intro h2;cases h2
  ·intro h2;omega
 ·rw[if_neg h,zU];constructor
  ·intro h2;exact ⟨by omega,h2⟩
  ·intro h2;exact h2.2
theorem zg2 {ls:List (List En)} {k:Nat} {es:List En} (he:ls[k]?=some es) (hf:aR es≠0):jT (ls.drop k)=aR es:=by
 obtain ⟨hk,hx⟩:=List.getElem?_eq_some_iff.1 he;rw[List.drop_eq_getElem_cons hk,hx];simp[jT,hf]
theorem zT {ls:List (List En)} {k:Nat} {es:List En} (he:ls[k]?=some es) (hf:aR es=0):jT (ls.drop k)=jT (ls.drop (k+1)):=by
 obtain ⟨hk,hx⟩:=List.getElem?_eq_some_iff.1 he;rw[List.drop_eq_getElem_cons hk,hx];simp[jT,hf]
def eJ (ls:List (List En)):Prop:=∀ es∈ls,es.length≤1048576∧aV es
theorem lH (a:Option Addr) (c n:Nat) (ls:List (List En)) (w:World) (h:RdL w a ls) (hn:n=ls.length) (hl:ls.length≤1048576) (hs:eJ ls) :
  Calls Tryz.prog 49 #[.slice a n c] w fun r w'=>r=.returned (.int .i64 (bV ls))∧Below w.heap.size w w':=by
 subst hn;have HR:=aA h;have HS:=aA hs;clear h hs;by_cases h4:4<ls.length
 ·have HZ:=aA (show bV ls=2 by simp[bV,h4])
  have h4':(4:Int)<(ls.length:Int):=by omega
  go_enter Tryz.func49,Tryz.ntmps49;go_wp2_with fail
  go_ret
  exact ⟨by rw[HZ.out];rfl,Below.refl _ _⟩
 ·have HZ:=aA (show bV ls=jT (ls.drop 0) by simp[bV,h4])
  have h4':¬ (4:Int)<(ls.length:Int):=by omega
  clear h4;generalize bV ls=V at *;go_enter Tryz.func49,Tryz.ntmps49;go_wp2_with fail
  go_loopw [11] (fun i wr=>∃ k:Nat,k≤ls.length∧i=.int .i64 k∧Hid (V=jT (ls.drop k))∧Hid (Below w.heap.size w wr)) (fun i _=>ls.length - (intOf i).toNat)
  case atStart=>exact ⟨0,Nat.zero_le _,rfl,HZ,aA (Below.refl _ _)⟩
  case round =>
   obtain ⟨k,hk,rfl,HV,HW⟩:=hrel;by_cases hlt:k<ls.length
   ·obtain ⟨b,off,es,x,cc,rfl,hb,he,c0,hr⟩:=(HR.out.below HW.out).at hlt
    obtain ⟨hel,hsm⟩:=HS.out es (List.mem_of_getElem? he);have HLF:=aA (gD x cc es.length es wr hr rfl (by omega) hsm)
    have HX:=aA he;clear he hr hsm;by_cases hf:aR es=0
    ·have HN:=aA (HV.out.trans (zT HX.out hf))
     rw[hf]at HLF;clear hf;go_wp2_with fail
     refine HLF.out.mono ?_;rintro r w1 ⟨rfl,hb1⟩;have B1:=aA (aB HW.out hb1);clear hb1 c0;go_wp2_with fail
     go_roundw
     case rel=>exact ⟨k+1,by omega,by go_num,HN,B1⟩
     case measure=>simp[intOf];omega
    ·have HN:=aA (HV.out.trans (zg2 HX.out hf))
     generalize aR es=F at *;have hf2:(F != 0)=true:=by simp;exact hf
     clear hf;go_wp2_with fail
     refine HLF.out.mono ?_;rintro r w1 ⟨rfl,hb1⟩;have B1:=aA (aB HW.out hb1);clear hb1 c0;go_wp2_with fail
     go_ret
     exact ⟨by rw[HN.out];rfl,B1.out⟩
   ·have HN:=aA (show V=0 by rw[HV.out,List.drop_eq_nil_of_le (by omega)];rfl)
    go_wp2_with fail
    go_ret
    exact ⟨by rw[HN.out];rfl,HW.out⟩
def dW (S:Nat→Bs→Option En) (p:Bs):Nat→Option Nat
 | 0=>none
 | n+1=>match S n p with
  | some e=>if e.kind=3 then none else some n
  | none=>if (bG p).any (fun q=>(S n q).any fun e=>!decide (e.kind=2)) then none else dW S p n
theorem rU {S:Nat→Bs→Option En} {p:Bs} {n:Nat} {e:En} (h:S n p=some e):dW S p (n+1)=if e.kind=3 then none else some n:=by simp[dW,h]
theorem vJ {S:Nat→Bs→Option En} {p:Bs} {n:Nat} (h:S n p=none) (hh:((bG p).any fun q=>(S n q).any fun e=>!decide (e.kind=2))=true):dW S p (n+1)=none:=by simp[dW,h,hh]
theorem qE {S:Nat→Bs→Option En} {p:Bs} {n:Nat} (h:S n p=none) (hh:((bG p).any fun q=>(S n q).any fun e=>!decide (e.kind=2))=false):dW S p (n+1)=dW S p n:=by simp[dW,h,hh]
def zxi (o:Option Nat) (p:Bs) (w:World) (r:Ending) (w':World):Prop :=
 (match o with
  | some n=>r=.returned (.tuple #[gO n p,.bool true])
  | none=>∃ v s,r=.returned (.tuple #[.agg #[.int .i64 v,.string s],.bool false]))∧Below w.heap.size w w'
end Go.Proofs.YtolnlfnndnpiiaaGreat
namespace Go.Proofs.YtolnlfnndnpiiaaGreat
structure Sn where
 name:Bs
 parent:Bs
 kind:Int
 lease:Bool
 layer:List En
def fW (b:Bs):Bool:=eH b&&decide (b.length≤4)
theorem gQ {b:Bs} (h:fW b=true):b≠[]:=fun e=>by subst e;simp[fW,eH]at h
def atS (l:List Sn) (nm:Bs):Option Sn:=l.find? fun s=>s.name==nm
theorem bW {l:List Sn} {nm:Bs} {s:Sn} (h:atS l nm=some s):s∈l∧s.name=nm:=⟨List.mem_of_find?_eq_some h,by simpa using List.find?_some h⟩
theorem kV {l:List Sn} {nm:Bs}:atS l nm=none↔∀ s∈l,s.name≠nm:=by simp[atS]
def lwQ (prev:Option Sn) (s:Sn):Bool :=
 match prev with
 | none=>false
 | some q=>Op.bytesLess s.name q.name||(s.name==q.name)
def mN (prev:Option Sn) (s:Sn):Int:=if fW s.name then (if (s.kind==1||s.kind==2)&&!lwQ prev s then aR s.layer else 1) else 5
def gV:Option Sn→List Sn→Int
 | _,[]=>0
 | prev,s :: r=>if mN prev s=0 then gV (some s) r else mN prev s
def aQ (l:List Sn):Nat→Option Sn→List Sn
 | 0,_=>[]
 | _+1,none=>[]
 | f+1,some s=>s :: aQ l f (atS l s.parent)
theorem jS (l:List Sn) (f:Nat):aQ l f none=[]:=by cases f <;> rfl
theorem sJ (l:List Sn):∀ (f:Nat) (o:Option Sn),(aQ l f o).length≤f
 | 0,_=>by simp[aQ]
 | f+1,none=>by simp[aQ]
 | f+1,some s=>by have:=sJ l f (atS l s.parent);simp[aQ];omega
theorem uV (l:List Sn):∀ (f:Nat) (o:Option Sn) (g:Nat),(aQ l f o).length<f→f≤g→aQ l g o=aQ l f o
 | 0,_,g,h,_=>by simp at h
 | f+1,none,g,_,_=>by rw[jS,jS]
 | f+1,some s,0,_,hg=>by omega
 | f+1,some s,g+1,h,hg=>by
  simp only[aQ,List.length_cons]at h ⊢;rw[uV l f (atS l s.parent) g (by omega) (by omega)]
theorem nJ {l:List Sn}:∀ {f:Nat} {o:Option Sn},(∀ s,o=some s→s∈l)→∀ x∈aQ l f o,x∈l
 | 0,_,_,x,hx=>by simp[aQ]at hx
 | f+1,none,_,x,hx=>by simp[aQ]at hx
 | f+1,some s,h,x,hx=>by
  simp only[aQ,List.mem_cons]at hx;rcases hx with rfl | hx
  ·exact h _ rfl
  ·exact nJ (fun y hy=>(bW hy).1) x hx
def eS (l:List Sn) (s:Sn):Int :=
 if s.parent=[] then 0 else match atS l s.parent with
 | none=>4
 | some p=>if p.kind=1 then 10 else if 4<(aQ l 5 (some s)).length then 2 else 0
def gF (l:List Sn):List Sn→Int
 | []=>0
 | s :: r=>if eS l s=0 then gF l r else eS l s
def snF (l:List Sn):Int:=if 10<l.length then 2 else if gV none l=0 then gF l l else gV none l
def fO (l:List Sn):Prop:=l.Pairwise fun x y=>Op.bytesLess x.name y.name=true
theorem ze8 {q s:Sn} (h:lwQ (some q) s=false):Op.bytesLess q.name s.name=true:=by
 simp only[lwQ,Bool.or_eq_false_iff,beq_eq_false_iff_ne]at h;exact fR _ _ h.1 h.2
theorem zsn {q s:Sn} (h:Op.bytesLess q.name s.name=true):lwQ (some q) s=false:=by
 simp only[lwQ,Bool.or_eq_false_iff,beq_eq_false_iff_ne];exact ⟨iB h,fun e=>jL h e.symm⟩
def tY (s:Sn):Prop:=fW s.name=true∧(s.kind=1∨s.kind=2)∧aR s.layer=0
theorem zv4 {prev:Option Sn} {s:Sn}:mN prev s=0↔tY s∧lwQ prev s=false:=by
 unfold mN tY;by_cases h1:fW s.name=true
 ·rw[if_pos h1]
  by_cases h2:((s.kind==1||s.kind==2)&&!lwQ prev s)=true
  ·rw[if_pos h2]
   simp only[Bool.and_eq_true,Bool.or_eq_true,beq_iff_eq,Bool.not_eq_true']at h2;exact ⟨fun h=>⟨⟨h1,h2.1,h⟩,h2.2⟩,fun h=>h.1.2.2⟩
  ·rw[if_neg h2]
   refine ⟨fun h=>absurd h (by decide),fun h=>absurd ?_ h2⟩
   simp only[Bool.and_eq_true,Bool.or_eq_true,beq_iff_eq,Bool.not_eq_true'];exact ⟨h.1.2.1,h.2⟩
 ·rw[if_neg h1]
  exact ⟨fun h=>absurd h (by decide),fun h=>absurd h.1.1 h1⟩
theorem nY:∀ {l:List Sn} {prev:Option Sn},gV prev l=0↔(∀ s∈l,tY s)∧fO l∧(∀ q s,prev=some q→s∈l→Op.bytesLess q.name s.name=true)
 | [],prev=>by simp[gV,fO]
 | s :: r,prev=>by
  have ih:=@nY r (some s);unfold gV;by_cases h:mN prev s=0
  ·rw[if_pos h,ih]
   obtain ⟨h1,h2⟩:=zv4.1 h;constructor
   ·rintro ⟨a1,a2,a3⟩
    refine ⟨fun x hx=>?_,List.pairwise_cons.2 ⟨fun y hy=>a3 s y rfl hy,a2⟩,fun q x hq hx=>?_⟩
    ·rcases List.mem_cons.1 hx with rfl | hx
     ·exact h1
     ·exact a1 x hx
    ·subst hq
     rcases List.mem_cons.1 hx with rfl | hx
     ·exact ze8 h2
     ·exact gI _ _ _ (ze8 h2) (a3 s x rfl hx)
   ·rintro ⟨a1,a2,a3⟩
    obtain ⟨b1,b2⟩:=List.pairwise_cons.1 a2;exact ⟨fun x hx=>a1 x (List.mem_cons_of_mem _ hx),b2,fun q x hq hx=>by cases hq;exact b1 x hx⟩
  ·rw[if_neg h]
   refine ⟨fun e=>absurd e h,fun ⟨a1,a2,a3⟩=>absurd (zv4.2 ⟨a1 s (List.mem_cons_self ..),?_⟩) h⟩
   cases prev with
   | none=>rfl
   | some q=>exact zsn (a3 q s rfl (List.mem_cons_self ..))
def rC (l:List Sn) (s:Sn):Prop:=s.parent=[]∨∃ p,atS l s.parent=some p∧p.kind≠1∧(aQ l 5 (some s)).length≤4
theorem pN {l:List Sn} {s:Sn}:eS l s=0↔rC l s:=by
 unfold eS rC;by_cases h:s.parent=[]
 ·simp[h]
 ·rw[if_neg h]
  cases hp:atS l s.parent with
  | none=>simp[h]
  | some p =>
   simp only[h,false_or,Option.some.injEq,exists_eq_left'];by_cases h1:p.kind=1
   ·rw[if_pos h1];simp[h1]
   ·rw[if_neg h1]
    by_cases h2:4<(aQ l 5 (some s)).length
    ·rw[if_pos h2];exact ⟨fun e=>absurd e (by decide),fun e=>by omega⟩
    ·rw[if_neg h2];exact ⟨fun _=>⟨h1,by omega⟩,fun _=>rfl⟩
theorem yB {l:List Sn}:∀ {r:List Sn},gF l r=0↔∀ s∈r,rC l s
 | []=>by simp[gF]
 | s :: r=>by
  unfold gF;by_cases h:eS l s=0
  ·rw[if_pos h,yB]
   have:=pN.1 h;simp[this]
  ·rw[if_neg h]
   refine ⟨fun e=>absurd e h,fun e=>absurd (pN.2 (e s (List.mem_cons_self ..))) h⟩
structure aW (l:List Sn):Prop where
 len:l.length≤10
 own:∀ s∈l,tY s
 rise:fO l
 stand:∀ s∈l,rC l s
theorem kH {l:List Sn}:snF l=0↔aW l:=by
 unfold snF;by_cases h:10<l.length
 ·rw[if_pos h];exact ⟨fun e=>absurd e (by decide),fun e=>by have:=e.len;omega⟩
 ·rw[if_neg h]
  by_cases h1:gV none l=0
  ·rw[if_pos h1,yB]
   obtain ⟨a1,a2,-⟩:=nY.1 h1;exact ⟨fun e=>⟨by omega,a1,a2,e⟩,fun e=>e.stand⟩
  ·rw[if_neg h1]
   exact ⟨fun e=>absurd e h1,fun e=>absurd (nY.2 ⟨e.own,e.rise,fun q s hq=>by cases hq⟩) h1⟩
theorem aW.line {l:List Sn} (h:aW l) {s:Sn} (hs:s∈l):(aQ l 5 (some s)).length≤4:=by
 rcases h.stand s hs with h1 | ⟨p,-,-,h2⟩
 ·have:atS l s.parent=none:=by
   rw[h1];exact kV.2 fun x hx e=>gQ (h.own x hx).1 e
  simp only[aQ,this,List.length_cons];simp
 ·exact h2
def cX (l:List Sn) (s:Sn):List (List En):=((aQ l 5 (some s)).map Sn.layer).reverse
theorem qM {l:List Sn} (h:aW l) {s:Sn} (hs:s∈l):(cX l s).length≤4:=by
 unfold cX;rw[List.length_reverse,List.length_map];exact h.line hs
theorem zn1 {l:List Sn} (h:aW l) {s:Sn} (hs:s∈l):bV (cX l s)=0:=by
 refine dR.2 ⟨qM h hs,fun es he=>?_⟩
 unfold cX at he;rw[List.mem_reverse,List.mem_map]at he;obtain ⟨x,hx,rfl⟩:=he;have:=(h.own x (nJ (fun y hy=>by cases hy;exact hs) x hx)).2.2
 exact eX.1 this
theorem kK {l:List Sn} (h:fO l) {s:Sn} (hs:s∈l):atS l s.name=some s:=by
 induction l with
 | nil=>cases hs
 | cons x r ih =>
  obtain ⟨b1,b2⟩:=List.pairwise_cons.1 h;unfold atS;rcases List.mem_cons.1 hs with rfl | hs
  ·simp
  ·have hne:x.name≠s.name:=jL (b1 s hs)
   rw[List.find?_cons_of_neg (by simpa using hne)]
   exact ih b2 hs
def bO (l:List Sn) (s:Sn):List Sn:=l.filter (fun x=>Op.bytesLess x.name s.name)++s :: l.filter (fun x=>Op.bytesLess s.name x.name)
theorem lW {l:List Sn} {s x:Sn}:x∈bO l s↔x=s∨(x∈l∧x.name≠s.name):=by
 unfold bO;simp only[List.mem_append,List.mem_filter,List.mem_cons];constructor
 ·rintro (⟨h1,h2⟩ | rfl | ⟨h1,h2⟩)
  ·exact .inr ⟨h1,jL h2⟩
  ·exact .inl rfl
  ·exact .inr ⟨h1,fun e=>jL h2 e.symm⟩
 ·rintro (rfl | ⟨h1,h2⟩)
  ·exact .inr (.inl rfl)
  ·cases hb:Op.bytesLess x.name s.name with
   | true=>exact .inl ⟨h1,rfl⟩
   | false=>exact .inr (.inr ⟨h1,fR _ _ hb h2⟩)
theorem qC {l:List Sn} (h:fO l) (s:Sn):fO (bO l s):=by
 unfold fO bO;rw[List.pairwise_append];refine ⟨h.sublist List.filter_sublist,List.pairwise_cons.2 ⟨fun y hy=>(List.mem_filter.1 hy).2,h.sublist List.filter_sublist⟩,fun x hx y hy=>?_⟩
 have h1:=(List.mem_filter.1 hx).2;rcases List.mem_cons.1 hy with rfl | hy
 ·exact h1
 ·exact gI _ _ _ h1 (List.mem_filter.1 hy).2
theorem zv2 {l:List Sn} (h:fO l) {nm:Bs} {s:Sn}:atS l nm=some s↔s∈l∧s.name=nm:=⟨bW,fun ⟨h1,h2⟩=>by rw[←h2];exact kK h h1⟩
theorem jN {l:List Sn} (h:fO l) (s:Sn) (nm:Bs):atS (bO l s) nm=if nm=s.name then some s else atS l nm:=by
 by_cases e:nm=s.name
 ·rw[if_pos e]
  exact (zv2 (qC h s)).2 ⟨lW.2 (.inl rfl),e.symm⟩
 ·rw[if_neg e]
  cases hx:atS l nm with
  | none =>
   rw[kV]at hx ⊢;intro x hx';rcases lW.1 hx' with rfl | ⟨h1,-⟩
   ·exact fun e2=>e e2.symm
   ·exact hx x h1
  | some x =>
   obtain ⟨h1,h2⟩:=bW hx;exact (zv2 (qC h s)).2 ⟨lW.2 (.inr ⟨h1,by rw[h2];exact e⟩),h2⟩
theorem rK:∀ (l:List Sn) (s:Sn),(l.filter (fun x=>Op.bytesLess x.name s.name)).length+(l.filter (fun x=>Op.bytesLess s.name x.name)).length+(l.filter (fun x=>x.name==s.name)).length=l.length
 | [],s=>rfl
 | x :: r,s=>by
  have ih:=rK r s;by_cases e:x.name=s.name
  ·have h1:Op.bytesLess x.name s.name=false:=by rw[e];exact gC _
   have h2:Op.bytesLess s.name x.name=false:=by rw[e];exact gC _
   have h3:(x.name==s.name)=true:=by simpa using e
   simp only[List.filter_cons,h1,h2,h3,Bool.false_eq_true,if_false,if_true,List.length_cons];omega
  ·have h3:(x.name==s.name)=false:=by simpa using e
   cases hb:Op.bytesLess x.name s.name with
   | true =>
    have h2:=iB hb;simp only[List.filter_cons,hb,h2,h3,Bool.false_eq_true,if_false,if_true,List.length_cons];omega
   | false =>
    have h2:=fR _ _ hb e;simp only[List.filter_cons,hb,h2,h3,Bool.false_eq_true,if_false,if_true,List.length_cons];omega
theorem zxk {l:List Sn} {s:Sn} (h:atS l s.name=none):(bO l s).length=l.length+1:=by
 have h1:=rK l s;have h2:l.filter (fun x=>x.name==s.name)=[]:=List.filter_eq_nil_iff.2 fun x hx=>by simpa using kV.1 h x hx
 rw[h2]at h1;simp only[List.length_nil]at h1;simp only[bO,List.length_append,List.length_cons];omega
theorem zl8:∀ {l:List Sn},fO l→∀ {t:Sn},t∈l→(l.filter (fun x=>x.name==t.name)).length=1
 | [],_,t,ht=>by cases ht
 | x :: r,h,t,ht=>by
  obtain ⟨b1,b2⟩:=List.pairwise_cons.1 h;rcases List.mem_cons.1 ht with rfl | ht
  ·have:r.filter (fun x=>x.name==t.name)=[]:=List.filter_eq_nil_iff.2 fun y hy=>by
    have:=jL (b1 y hy);simpa using fun e=>this e.symm
   simp[this]
  ·have h3:(x.name==t.name)=false:=by simpa using jL (b1 t ht)
   simp only[List.filter_cons,h3,Bool.false_eq_true,if_false];exact zl8 b2 ht
theorem zu8 {l:List Sn} (h:fO l) {s t:Sn} (ht:atS l s.name=some t):(bO l s).length=l.length:=by
 obtain ⟨h1,h2⟩:=bW ht;have h3:=rK l s;have h4:=zl8 h h1;rw[h2]at h4;rw[h4]at h3;simp only[bO,List.length_append,List.length_cons];omega
theorem zb5 (l:List Sn) (s:Sn):(l.filter (fun x=>!(x.name==s.name)) ++ [s]).Perm (bO l s):=by
 have key:∀ r:List Sn,(r.filter (fun x=>!(x.name==s.name))).Perm (r.filter (fun x=>Op.bytesLess x.name s.name)++r.filter (fun x=>Op.bytesLess s.name x.name)):=by
  intro r
  induction r with
  | nil=>exact List.Perm.nil
  | cons x r ih =>
   by_cases e:x.name=s.name
   ·have h1:Op.bytesLess x.name s.name=false:=by rw[e];exact gC _
    have h2:Op.bytesLess s.name x.name=false:=by rw[e];exact gC _
    have h3:(!(x.name==s.name))=false:=by simpa using e
    simpa only[List.filter_cons,h1,h2,h3,Bool.false_eq_true,if_false] using ih
   ·have h3:(!(x.name==s.name))=true:=by simpa using e
    cases hb:Op.bytesLess x.name s.name with
    | true =>
     have h2:=iB hb;simp only[List.filter_cons,hb,h2,h3,Bool.false_eq_true,if_false,if_true,List.cons_append];exact ih.cons x
    | false =>
     have h2:=fR _ _ hb e;simp only[List.filter_cons,hb,h2,h3,Bool.false_eq_true,if_false,if_true];exact (ih.cons x).trans List.perm_middle.symm
 unfold bO;refine (List.perm_append_singleton _ _).trans ?_;exact ((key l).cons s).trans List.perm_middle.symm
theorem zb8 {l:List Sn} (h:fO l) {s t:Sn} (ht:atS l s.name=some t) (hp:s.parent=t.parent):∀ (f:Nat) (o:Option Sn),(∀ x,o=some x→x∈l)→aQ (bO l s) f (o.map fun x=>if x.name=s.name then s else x)=(aQ l f o).map fun x=>if x.name=s.name then s else x
 | 0,o,_=>by simp[aQ]
 | f+1,none,_=>by simp[aQ]
 | f+1,some x,hx=>by
  have hxl:=hx x rfl;have hpar:(if x.name=s.name then s else x).parent=x.parent:=by
   split
   ·rename_i e
    have:t=x:=by
     have h1:=kK h hxl;rw[e,ht]at h1;exact Option.some.inj h1
    rw[hp,this]
   ·rfl
  simp only[Option.map_some,aQ,List.map_cons,List.cons.injEq,true_and];rw[hpar,jN h];have:=zb8 h ht hp f (atS l x.parent) (fun y hy=>(bW hy).1)
  rw[←this]
  congr 1
  by_cases e:x.parent=s.name
  ·rw[if_pos e,e,ht]
   simp[(bW ht).2]
  ·rw[if_neg e]
   cases hq:atS l x.parent with
   | none=>rfl
   | some y =>
    have:=(bW hq).2;simp[this,e]
theorem pA {l:List Sn} (h:fO l) {s:Sn} (hn:∀ x∈l,x.parent≠s.name):∀ (f:Nat) (o:Option Sn),(∀ x,o=some x→x∈l)→aQ (bO l s) f o=aQ l f o
 | 0,o,_=>by simp[aQ]
 | f+1,none,_=>by simp[aQ]
 | f+1,some x,hx=>by
  simp only[aQ,List.cons.injEq,true_and];rw[jN h,if_neg (hn x (hx x rfl))];exact pA h hn f _ (fun y hy=>(bW hy).1)
theorem aW.no_child {l:List Sn} (h:aW l) {nm:Bs} (hn:atS l nm=none) (h0:nm≠[]):∀ x∈l,x.parent≠nm:=fun x hx e=>by
 rcases h.stand x hx with h1 | ⟨p,h1,-,-⟩
 ·exact h0 (e ▸ h1)
 ·rw[e,hn]at h1;cases h1
theorem zei {l:List Sn} (h:aW l) {s:Sn} (ho:tY s) (hn:atS l s.name=none) (hs:rC l s) (hl:l.length<10) (hself:s.parent≠s.name):aW (bO l s):=by
 have hnc:=h.no_child hn (gQ ho.1);refine ⟨by rw[zxk hn];omega,fun x hx=>?_,qC h.rise s,fun x hx=>?_⟩
 ·rcases lW.1 hx with rfl | ⟨h1,-⟩
  ·exact ho
  ·exact h.own x h1
 ·rcases lW.1 hx with rfl | ⟨h1,-⟩
  ·rcases hs with e | ⟨p,e1,e2,e3⟩
   ·exact .inl e
   ·refine .inr ⟨p,by rw[jN h.rise,if_neg hself];exact e1,e2,?_⟩
    simp only[aQ]at e3 ⊢;rw[jN h.rise,if_neg hself,pA h.rise hnc 4 _ (fun y hy=>(bW hy).1)]
    exact e3
  ·rcases h.stand x h1 with e | ⟨p,e1,e2,e3⟩
   ·exact .inl e
   ·refine .inr ⟨p,by rw[jN h.rise,if_neg (hnc x h1)];exact e1,e2,?_⟩
    rw[pA h.rise hnc 5 _ (fun y hy=>by cases hy;exact h1)]
    exact e3
theorem oM {l:List Sn} (h:aW l) {s t:Sn} (ho:tY s) (ht:atS l s.name=some t) (hp:s.parent=t.parent) (hk:t.kind≠1→s.kind≠1):aW (bO l s):=by
 obtain ⟨htl,htn⟩:=bW ht;have hline:∀ x∈l,aQ (bO l s) 5 (some (if x.name=s.name then s else x))=(aQ l 5 (some x)).map fun x=>if x.name=s.name then s else x:=fun x hx=>zb8 h.rise ht hp 5 (some x) (fun y hy=>by cases hy;exact hx)
 have hst:∀ x∈l,rC (bO l s) (if x.name=s.name then s else x):=by
  intro x hx;have hpar:(if x.name=s.name then s else x).parent=x.parent:=by
   split
   ·rename_i e
    have:t=x:=by
     have h1:=kK h.rise hx;rw[e,ht]at h1;exact Option.some.inj h1
    rw[hp,this]
   ·rfl
  rcases h.stand x hx with e | ⟨p,e1,e2,e3⟩
  ·exact .inl (by rw[hpar];exact e)
  ·refine .inr ?_
   rw[hpar,hline x hx,List.length_map,jN h.rise];by_cases e:x.parent=s.name
   ·rw[if_pos e]
    rw[e,ht]at e1;cases e1
    exact ⟨s,rfl,hk e2,e3⟩
   ·rw[if_neg e]
    exact ⟨p,e1,e2,e3⟩
 refine ⟨by rw[zu8 h.rise ht];exact h.len,fun x hx=>?_,qC h.rise s,fun x hx=>?_⟩
 ·rcases lW.1 hx with rfl | ⟨h1,-⟩
  ·exact ho
  ·exact h.own x h1
 ·rcases lW.1 hx with rfl | ⟨h1,h2⟩
  ·have:=hst t htl
   rwa [if_pos htn]at this
  ·have:=hst x h1
   rwa [if_neg h2]at this
def dO (l:List Sn) (nm:Bs):List Sn:=l.filter fun x=>!(x.name==nm)
theorem uX {l:List Sn} {nm:Bs} {x:Sn}:x∈dO l nm↔x∈l∧x.name≠nm:=by simp[dO]
theorem zp4 {l:List Sn} (h:fO l) (nm:Bs):fO (dO l nm):=h.sublist List.filter_sublist
theorem zzb {l:List Sn} (h:fO l) {nm k:Bs} (hk:k≠nm):atS (dO l nm) k=atS l k:=by
 cases hx:atS l k with
 | none =>
  rw[kV]at hx ⊢;exact fun x hx'=>hx x (uX.1 hx').1
 | some x =>
  obtain ⟨h1,h2⟩:=bW hx;exact (zv2 (zp4 h nm)).2 ⟨uX.2 ⟨h1,by rw[h2];exact hk⟩,h2⟩
theorem za8 {l:List Sn} (h:fO l) {nm:Bs} (hn:∀ x∈l,x.parent≠nm):∀ (f:Nat) (o:Option Sn),(∀ x,o=some x→x∈l)→aQ (dO l nm) f o=aQ l f o
 | 0,o,_=>by simp[aQ]
 | f+1,none,_=>by simp[aQ]
 | f+1,some x,hx=>by
  simp only[aQ,List.cons.injEq,true_and];rw[zzb h (hn x (hx x rfl))];exact za8 h hn f _ (fun y hy=>(bW hy).1)
theorem zfi {l:List Sn} (h:aW l) {nm:Bs} (hn:∀ x∈l,x.parent≠nm):aW (dO l nm):=by
 refine ⟨Nat.le_trans (List.length_filter_le ..) h.len,fun x hx=>h.own x (uX.1 hx).1,zp4 h.rise nm,fun x hx=>?_⟩
 obtain ⟨h1,h2⟩:=uX.1 hx;rcases h.stand x h1 with e | ⟨p,e1,e2,e3⟩
 ·exact .inl e
 ·refine .inr ⟨p,by rw[zzb h.rise (hn x h1)];exact e1,e2,?_⟩
  rw[za8 h.rise hn 5 _ (fun y hy=>by cases hy;exact h1)]
  exact e3
def uI (l:List Sn) (s:Sn):Int:=if fW s.name then (if (atS l s.name).isSome then 7 else if eS l s=0 then (if 10≤l.length then 2 else 0) else eS l s) else 5
theorem uJ {l:List Sn} {s:Sn}:uI l s=0↔fW s.name=true∧atS l s.name=none∧rC l s∧l.length<10:=by
 unfold uI;by_cases h1:fW s.name=true
 ·rw[if_pos h1]
  cases h2:atS l s.name with
  | some t=>simp
  | none =>
   simp only[Option.isSome_none,Bool.false_eq_true,if_false,h1,true_and];by_cases h3:eS l s=0
   ·rw[if_pos h3]
    by_cases h4:10≤l.length
    ·rw[if_pos h4];exact ⟨fun e=>absurd e (by decide),fun e=>by omega⟩
    ·rw[if_neg h4];exact ⟨fun _=>⟨pN.1 h3,by omega⟩,fun _=>rfl⟩
   ·rw[if_neg h3];exact ⟨fun e=>absurd e h3,fun e=>absurd (pN.2 e.1) h3⟩
 ·rw[if_neg h1];exact ⟨fun e=>absurd e (by decide),fun e=>absurd e.1 h1⟩
theorem zg4 {l:List Sn} {s:Sn} (h:uI l s=0):s.parent≠s.name:=fun e=>by
 obtain ⟨h1,h2,h3,-⟩:=uJ.1 h;rcases h3 with h3 | ⟨p,h3,-⟩
 ·rw[h3]at e;exact gQ h1 e.symm
 ·rw[e,h2]at h3;cases h3
theorem zs1 {l:List Sn} (hr:aW l) {s:Sn} (h:uI l s=0) (hk:s.kind=1∨s.kind=2) (hl:aR s.layer=0):aW (bO l s):=by
 obtain ⟨h1,h2,h3,h4⟩:=uJ.1 h;exact zei hr ⟨h1,hk,hl⟩ h2 h3 h4 (zg4 h)
theorem zhn {l:List Sn} (hr:aW l) {s p:Sn} (h:uI l s=0) (hp:atS l s.parent=some p):cX (bO l s) s=cX l p ++ [s.layer]:=by
 obtain ⟨h1,h2,h3,-⟩:=uJ.1 h;have hl:(aQ l 5 (some s)).length≤4:=by
  rcases h3 with h3 | ⟨p',h3,-,h4⟩
  ·have e:atS l []=none:=kV.2 fun x hx e=>gQ (hr.own x hx).1 e
   rw[h3,e]at hp;cases hp
  ·exact h4
 simp only[aQ,hp,List.length_cons]at hl;have h4:=uV l 4 (some p) 5 (by simp only[aQ,List.length_cons];omega) (by omega)
 unfold cX;rw[h4]
 conv=>lhs;unfold aQ
 rw[jN hr.rise,if_neg (zg4 h),hp,pA hr.rise (hr.no_child h2 (gQ h1)) 4 _ (fun y hy=>by cases hy;exact (bW hp).1)]
 simp
def fH (l:List Sn) (nm:Bs):Nat:=(aQ l 5 (if nm=[] then none else atS l nm)).length
def dH (l:List Sn) (s:Sn):Int :=
 if fW s.name then (if (atS l s.name).isSome then 7 else
  if s.parent=[] then (if 10≤l.length∨4≤fH l s.parent then 2 else 0) else match atS l s.parent with
  | none=>4
  | some p=>if p.kind=1 then 10 else if 10≤l.length∨4≤fH l s.parent then 2 else 0) else 5
theorem zf4 {l:List Sn} (hr:aW l) (s:Sn):dH l s=uI l s:=by
 unfold dH uI eS;by_cases h1:fW s.name=true
 ·rw[if_pos h1,if_pos h1]
  by_cases h2:(atS l s.name).isSome=true
  ·rw[if_pos h2,if_pos h2]
  ·rw[if_neg h2,if_neg h2]
   by_cases h3:s.parent=[]
   ·have hd:fH l s.parent=0:=by unfold fH;rw[if_pos h3,jS];rfl
    rw[if_pos h3,if_pos h3,if_pos rfl,hd];simp
   ·rw[if_neg h3,if_neg h3]
    cases hp:atS l s.parent with
    | none=>simp
    | some p =>
     simp only;by_cases h4:p.kind=1
     ·rw[if_pos h4,if_pos h4];simp
     ·rw[if_neg h4,if_neg h4]
      have hpl:=hr.line (bW hp).1;have hm:=uV l 4 (some p) 5;have hle:=sJ l 4 (some p);have hd:fH l s.parent=(aQ l 5 (some p)).length:=by unfold fH;rw[if_neg h3,hp]
      have hs5:(aQ l 5 (some s)).length=1+(aQ l 4 (some p)).length:=by
       have e5:aQ l 5 (some s)=s :: aQ l 4 (atS l s.parent):=rfl;rw[e5,hp,List.length_cons,Nat.add_comm]
      have hiff:4≤fH l s.parent↔4<(aQ l 5 (some s)).length:=by
       rw[hd,hs5];by_cases hlt:(aQ l 4 (some p)).length<4
       ·rw[hm hlt (by omega)];omega
       ·have h45:(aQ l 4 (some p)).length≤(aQ l 5 (some p)).length:=by
         by_cases hx:(aQ l 5 (some p)).length<4
         ·exfalso
          have:∀ (f:Nat) (o:Option Sn),(aQ l f o).length≤(aQ l (f+1) o).length:=by
           intro f
           induction f with
           | zero=>intro o;simp[aQ]
           | succ f ih =>
            intro o;cases o with
            | none=>simp[aQ]
            | some y =>
             have:=ih (atS l y.parent)
             conv=>lhs;unfold aQ
             conv=>rhs;unfold aQ
             simpa using this
          have h9:(aQ l 4 (some p)).length≤(aQ l 5 (some p)).length:=this 4 (some p);omega
         ·omega
        omega
      by_cases h5:4<(aQ l 5 (some s)).length
      ·rw[if_pos h5,if_pos (.inr (hiff.2 h5))];simp
      ·rw[if_neg h5,if_pos rfl]
       have:¬ 4≤fH l s.parent:=fun e=>h5 (hiff.1 e)
       simp[this]
 ·rw[if_neg h1,if_neg h1]
def nD (prev:Option Sn) (s:Sn):Int:=if fW s.name then (if (s.kind==1||s.kind==2)&&!lwQ prev s then cJ s.layer else 1) else 5
def jE:Option Sn→List Sn→Int
 | _,[]=>0
 | prev,s :: r=>if nD prev s=0 then jE (some s) r else nD prev s
def kN (l:List Sn) (s:Sn):Int :=
 if s.parent=[] then 0 else match atS l s.parent with
 | none=>4
 | some p=>if p.kind=1 then 10 else if 4<fH l s.name then 2 else 0
def iV (l:List Sn):List Sn→Int
 | []=>0
 | s :: r=>if kN l s=0 then iV l r else kN l s
def snM (l:List Sn):Int:=if 10<l.length then 2 else if jE none l=0 then iV l l else jE none l
def qK (l:List Sn):Prop:=∀ s∈l,cJ s.layer=aR s.layer
theorem zv1:∀ {l:List Sn} (h:qK l) (prev:Option Sn),jE prev l=gV prev l
 | [],_,prev=>rfl
 | s :: r,h,prev=>by
  have h1:nD prev s=mN prev s:=by unfold nD mN;rw[h s (List.mem_cons_self ..)]
  unfold jE gV;rw[h1,zv1 (fun x hx=>h x (List.mem_cons_of_mem _ hx)) (some s)]
theorem zsb {l:List Sn} (hr:fO l) {s:Sn} (hs:s∈l) (hn:fW s.name=true):kN l s=eS l s:=by
 have:fH l s.name=(aQ l 5 (some s)).length:=by
  unfold fH;rw[if_neg (gQ hn),kK hr hs]
 unfold kN eS;rw[this]
 all_goals (cases atS l s.parent <;> rfl)
theorem xZ {l:List Sn} (hr:fO l) (ho:∀ s∈l,tY s):∀ r:List Sn,(∀ s∈r,s∈l)→iV l r=gF l r
 | [],_=>rfl
 | s :: r,h=>by
  have hs:=h s (List.mem_cons_self ..);unfold iV gF;rw[zsb hr hs (ho s hs).1,xZ hr ho r (fun x hx=>h x (List.mem_cons_of_mem _ hx))]
theorem zc1 {l:List Sn} (h:qK l):snM l=snF l:=by
 unfold snM snF;rw[zv1 h];by_cases h0:gV none l=0
 ·obtain ⟨a1,a2,-⟩:=nY.1 h0
  rw[xZ a2 a1 l (fun _ hx=>hx)]
 ·rw[if_neg h0,if_neg h0]
theorem aW.active {l:List Sn} (h:aW l) {nm:Bs} {t:Sn} (ht:atS l nm=some t) (hk:t.kind=1):∀ x∈l,x.parent≠nm:=fun x hx e=>by
 rcases h.stand x hx with h1 | ⟨p,h1,h2,-⟩
 ·obtain ⟨a1,a2⟩:=bW ht
  exact gQ (h.own t a1).1 (by rw[a2,←e,h1])
 ·rw[e,ht]at h1
  cases h1
  exact h2 hk
theorem zgf {l:List Sn} (h:aW l) {s:Sn} (hn:∀ x∈l,x.parent≠s.name) {x:Sn} (hx:x∈l):cX (bO l s) x=cX l x:=by
 unfold cX;rw[pA h.rise hn 5 _ (fun y hy=>by cases hy;exact hx)]
def eE (l:List Sn) (s:Sn):List (List En):=((aQ l 4 (atS l s.parent)).map Sn.layer).reverse
theorem gT (l:List Sn) (s:Sn):cX l s=eE l s ++ [s.layer]:=by
 unfold cX eE;have e5:aQ l 5 (some s)=s :: aQ l 4 (atS l s.parent):=rfl;rw[e5];simp
theorem zql {l:List Sn} (h:aW l) {s t:Sn} (ht:atS l s.name=some t) (hp:s.parent=t.parent) (hn:∀ x∈l,x.parent≠s.name):cX (bO l s) s=eE l t ++ [s.layer]:=by
 obtain ⟨a1,a2⟩:=bW ht;rw[gT];unfold eE;rw[hp,jN h.rise,if_neg (hn t a1),pA h.rise hn 4 _ (fun y hy=>(bW hy).1)]
theorem zfn {l:List Sn} (h:aW l) (s:Sn) {x:Sn} (hx:x∈l) (hne:x.name≠s.name):atS (bO l s) x.name=some x:=by
 rw[jN h.rise,if_neg hne];exact kK h.rise hx
end Go.Proofs.YtolnlfnndnpiiaaGreat
