import Derived.Test.YtjbpgdpciinlcaaGreatBg45
import Derived.Test.YtjbpgdpciinlcaaGreatBg46
set_option maxHeartbeats 40000000
set_option maxRecDepth 1000000
namespace Go.Proofs.YtjbpgdpciinlcaaGreat
open Go.RowKit
variable {ls:List (List Int)}{q xs:List Int}{m:Nat}{v:Value}{A W X w:World}
theorem ud(h:Bl A X)(o:Obj):Bl A (X.alloc o):=h.alloc h.size o
def ISSn(w:World)(v:Value)(ls:List (List Int)):Prop:=∃a cap,v=.slice a ls.length cap/\(ls.length=0∨∃b o,a=some ⟨b,o,none⟩/\∀j,j < ls.length->∃ad c,w.cell? ⟨b,o+j,none⟩=some (.slice (some ad) (ls.getD j []).length c)/\IS w (.slice (some ad) (ls.getD j []).length c) (ls.getD j []))
theorem ISSn.iss(h:ISSn w v ls):ISS w v ls:=by
 obtain⟨a,cap,e,h1⟩:=h;refine⟨a,cap,e,?_⟩;rcases h1 with h1|⟨b,o,ea,h1⟩
 ·exact Or.inl h1
 ·refine Or.inr ⟨b,o,ea,fun j hj=>?_⟩;obtain⟨ad,c,h2,h3⟩:=h1 j hj;exact⟨_,h2,h3⟩
theorem RQ.issn{B:Nat}{us:List Value}(h:RQ W B v us ls)(hp:∀i,i < ls.length->0 < (ls.getD i []).length):ISSn W v ls:=by
 obtain⟨a,cap,e,-⟩:=h.rs.sl;refine⟨a,cap,e,?_⟩;by_cases h0:ls.length=0
 ·exact Or.inl h0
 ·obtain⟨g,cap',e',-,-⟩:=h.get (i:=0) (by omega);rw[e]at e';simp only[Value.slice.injEq]at e';refine Or.inr ⟨g,0,e'.1,fun j hj=>?_⟩;obtain⟨g2,cap2,e2,-,hc⟩:=h.get hj;rw[e]at e2;simp only[Value.slice.injEq]at e2;have hg:g2=g:=by have:=e2.1.symm.trans e'.1;simpa using this
  subst hg;have ho:=h.each j hj;obtain⟨g3,c3,e3,-⟩:=xw ho (hp j hj);refine⟨⟨g3,0,none⟩,c3,by rw[Nat.zero_add,hc,e3],?_⟩;rw[<-e3];exact qW ho
theorem qCl{ad:Addr}{n c:Nat}{l:List Int}(h:IS w (.slice (some ad) n c) l):∀j u,(l.map (Value.int .i64))[j]?=some u->w.cell? (ad.add j)=some u:=fun j u hu=>by
 have hj:j < l.length:=by
  rcases Nat.lt_or_ge j l.length with h|h
  ·exact h
  ·rw[gN (by simpa using h)]at hu;cases hu
 obtain⟨a',c',e,hh⟩:=h;simp only[Value.slice.injEq]at e;rcases hh with h0|⟨b,o,ea,hh⟩
 ·omega
 ·have e2:ad=⟨b,o,none⟩:=Option.some.inj (e.1.trans ea);rw[e2,show((⟨b,o,none⟩:Addr).add j)=⟨b,o+j,none⟩by unfold Addr.add;split <;> simp_all,hh j hj,<-hu,bJ,gD,gE hj];rfl
theorem ISds.below{W':World}{ss:List SdM}(h:ISds W v ss)(hb:Bl W W'):ISds W' v ss:=by
 obtain⟨a,cap,e,h1⟩:=h;refine⟨a,cap,e,h1.imp id ?_⟩;rintro⟨b,o,ea,h2⟩;exact⟨b,o,ea,fun j hj=>(h2 j hj).below hb⟩
def nxL(f:List Int->List Int)(L:List (List Int))(i:Nat):List (List Int):=(L.take i).flatMap fun q=>(f q).map fun v=>q++[v]
theorem qCF(f:List Int->List Int){L:List (List Int)}{i:Nat}(hi:i < L.length):nxL f L (i+1)=nxL f L i++(f (L.getD i [])).map fun v=>L.getD i []++[v]:=by
 unfold nxL;rw[tA,gE hi,List.flatMap_append,gD,gE hi];simp
theorem qEH(f:List Int->List Int)(L:List (List Int))(i:Nat):(nxL f L i).length<=(L.flatMap fun q=>(f q).map fun v=>q++[v]).length:=by
 have e:L.flatMap (fun q=>(f q).map fun v=>q++[v])=nxL f L i++(L.drop i).flatMap fun q=>(f q).map fun v=>q++[v]:=by
  unfold nxL;rw[<-List.flatMap_append,tD]
 rw[e,lA];omega
def mxL(q:List Int)(xs:List Int)(m:Nat):List (List Int):=(xs.take m).map fun v=>q++[v]
theorem qCG(h:m < xs.length):mxL q xs (m+1)=mxL q xs m++[q++[xs.getD m 0]]:=by
 unfold mxL;rw[qm h,mA];rfl
theorem qDN(h:m<=xs.length):(mxL q xs m).length=m:=by
 unfold mxL;rw[lM,bQ];omega
theorem UD(w:World)(vt vo:Value)(tl:List TbV)(o:List Int)(h:ITs w vt tl)(ho:IS w vo o)(hl:tl.length<=1000)(hol:o.length<=1000)(hok:∀t∈tl,TvJ t)(hcov:Qy tl o):
 Cl 22 #[vt,vo] w fun e w'=>∃v,e=.returned (.tuple #[v,.int .i64 (if smJ tl o o.length then (viJ tl o o.length:Int) else -1)])/\Fz w.heap.size (fun W=>ISS W v (if smJ tl o o.length then lvJ tl o o.length else [])) w'/\Bl w w':=by
 obtain⟨i0,hi,hz0,hz1,hz2⟩:=info_parts Tryz.infoInt;obtain⟨iS,hj,hy0,hy1,hy2⟩:=info_parts Tryz.infoIS;have KSd:=hid (Ye w vt vo tl o h ho hl hol hok);have HNL:Hid (∀p,(nxJ tl o p).length<=10000):=hid fun p=>qDE hok p
 have KNx:Hid (∀W vS vp p k,Bl w W->ISds W vS (tl.map (sdT o))->IS W vp p->p∈lvJ tl o k->k < o.length->Cl 50 #[vS,vo,vp] W fun e w'=>∃g c,e=.returned (.slice (some ⟨g,0,none⟩) (nxJ tl o p).length c)/\w'.ownsRow W.heap.size 3 1 (.slice (some ⟨g,0,none⟩) (nxJ tl o p).length c) (nxJ tl o p).length ((nxJ tl o p).map (Value.int .i64))/\Bl W w'):=hid fun W vS vp p k hW hS hp hm hk=>by
  have hpk:=XW p hm;refine UC W vS vo vp (tl.map (sdT o)) o p hS (ho.below hW) hp (by omega) hol (by rw[lM];exact hl) (fun s hs=>?_) (qDD p hm) (qEb hcov (by omega)) (fun s hs=>?_)
  ·obtain⟨t,ht,rfl⟩:=List.mem_map.1 hs;exact⟨yc o t,bK (je o t) (by have:=(hok t ht).n;omega),bK (y8 _ _) hol⟩
  ·obtain⟨t,ht,rfl⟩:=List.mem_map.1 hs;exact qEE (by omega)
 obtain⟨at',ct,rfl,hc⟩:=h;obtain⟨ao,co,rfl,-⟩:=ho
 have HC:Hid (∀W,Bl w W->∀j,j < tl.length->∃b oo,at'=some ⟨b,oo,none⟩/\TabAt W b (oo+j*3) (tl.getD j qA)):=hid fun W hW j hj=>by
  rcases hc with h0|⟨b,oo,rfl,h⟩
  ·omega
  ·exact⟨b,oo,rfl,(h j hj).below hW⟩
 have HEm:Hid (∀j,j < tl.length->(tl.take (j+1)).any (fun t=>decide (t.rows.length=0))=((tl.take j).any (fun t=>decide (t.rows.length=0))||decide ((tl.getD j qA).rows.length=0))):=hid fun j hj=>by
  rw[tA,gE hj,List.any_append,gD,gE hj];simp
 have HEn:Hid ((tl.take tl.length).any (fun t=>decide (t.rows.length=0))=xJ tl):=hid (by rw[tL];rfl);have HE0:Hid ((tl.take 0).any (fun t=>decide (t.rows.length=0))=false):=hid rfl;obtain⟨EM,hEM⟩:∃EM:Nat->Bool,EM=fun j=>(tl.take j).any (fun t=>decide (t.rows.length=0)):=⟨_,rfl⟩;have HEM:Hid (EM 0=false/\EM tl.length=xJ tl/\∀j,j < tl.length->EM (j+1)=(EM j||decide ((tl.getD j qA).rows.length=0))):=hid (by rw[hEM];exact⟨HE0.out,HEn.out,HEm.out⟩);clear hEM HEm HEn HE0;obtain⟨n,hn⟩:∃n,n=tl.length:=⟨_,rfl⟩;rw[<-hn]at hl HC HEM KSd ⊢;clear hn hc hok hcov;obtain⟨no,hno⟩:∃no,no=o.length:=⟨_,rfl⟩;rw[<-hno]at hol KNx KSd ⊢;clear hno;obtain⟨AN,hAN⟩:∃AN:Int,AN=(if smJ tl o no then (viJ tl o no:Int) else -1):=⟨_,rfl⟩;obtain⟨AL,hAL⟩:∃AL:List (List Int),AL=(if smJ tl o no then lvJ tl o no else []):=⟨_,rfl⟩;rw[<-hAN,<-hAL];have HAN:=hid hAN;have HAL:=hid hAL;clear hAN hAL;go_enter Tryz.func22,Tryz.ntmps22
 go_upto_region 2 with (first|(go_at_call 49;refine KSd.out.mono ?_;rintro e w1 ⟨vS,rfl,hS1,hb1⟩)|fail)
 have HS1:=hid hS1;have HB1:=hid hb1;obtain⟨aS,cS,rfl,-⟩:=hS1;have hsn:(tl.map (sdT o)).length=(tl.map (sdT o)).length:=rfl;generalize (tl.map (sdT o)).length=ns at *;clear hb1 KSd hsn;obtain⟨W2,hW2⟩:∃W2,W2=(w1.alloc (.cells #[] 3)).alloc (.cells #[.slice (some ⟨w1.heap.size,0,none⟩) 0 0] 24):=⟨_,rfl⟩;have hB2:Bl w1 W2:=by rw[hW2];exact ud (ud (bI _ _) _) _
 have HN2:Hid (Fz w.heap.size (fun W=>ISSn W (.slice (some ⟨w1.heap.size+1,0,none⟩) 1 1) [[]]) W2):=hid fun W' hW'=>by
  refine⟨_,1,rfl,Or.inr ⟨w1.heap.size+1,0,rfl,fun j hj=>?_⟩⟩;obtain rfl:j=0:=by simpa using hj
  refine⟨⟨w1.heap.size,0,none⟩,0,?_,⟨_,0,rfl,Or.inl rfl⟩⟩;have hsz:W2.heap.size=w1.heap.size+2:=by rw[hW2];simp
  rw[bE (w:=W2) (a:=⟨w1.heap.size+1,0+0,none⟩) (hW' (w1.heap.size+1) (by have:=HB1.out.size;omega) (by omega)),hW2,cA _ _ _ _ (by simp)];rfl
 have HB2:=hid (bt HB1.out hB2);have HS2:=hid (HS1.out.below hB2);clear hB2 HS1 HB1;go_upto_region 3 with fail
 rw[<-hW2];clear hW2;have HLv:Hid (∀j,lvJ tl o (j+1)=(lvJ tl o j).flatMap fun q=>(nxJ tl o q).map fun v=>q++[v]):=hid fun j=>qCB tl o j;have HL0:Hid (xJ tl=true->lvJ tl o 0=[]):=hid fun h=>by unfold lvJ;rw[if_pos h]
 have HL1:Hid (xJ tl=false->lvJ tl o 0=[[]]):=hid fun h=>by unfold lvJ;rw[h];rfl
 have HLl:Hid (∀j,∀q∈lvJ tl o j,q.length=j):=hid fun j q hq=>XW q hq;have HSm:Hid (smJ tl o 0=true/\(∀j,smJ tl o (j+1)=(smJ tl o j&&decide ((lvJ tl o (j+1)).length<=10000)))/\(∀j k,j < k->¬(lvJ tl o (j+1)).length<=10000->smJ tl o k=false)):=hid ⟨rfl,fun j=>Qx tl o j,fun j k h1 h2=>YF h1 h2⟩;have HVi:Hid (viJ tl o 0=0/\(∀j,viJ tl o (j+1)=viJ tl o j+(lvJ tl o (j+1)).length)/\∀j,smJ tl o j=true->viJ tl o j<=j*10000):=hid ⟨rfl,fun j=>V6 tl o j,fun j h=>V7 h⟩;go_upto_block 0 with fail
 go_cut [7] (fun v7 wx=>∃vl,vl=v7/\Hid (Fz w.heap.size (fun W=>ISSn W vl (lvJ tl o 0)) wx/\Bl W2 wx))
 case first=>
  go_wp2_with fail
  go_loopw [7,23] (fun v7 t wr=>∃(j:Nat) (vl:Value),j<=n/\t=.int .i64 j/\vl=v7/\Hid (vl=(if EM j then .slice none 0 0 else .slice (some ⟨w1.heap.size+1,0,none⟩) 1 1)/\Bl W2 wr)) (fun _ t _=>n - (intOf t).toNat)
  case atStart=>exact⟨0,_,nZ _,rfl,rfl,hid ⟨by rw[HEM.out.1];rfl,bI _ _⟩⟩
  case round=>
   obtain⟨j,vl,hjn,rfl,rfl,HT⟩:=hrel;by_cases hlt:j < n
   ·have i1:(j:Int) < (n:Int):=by omega
    obtain⟨b,oo,ea,v0,v1,v2,c0,c1,c2,hI⟩:=HC.out wr (bt HB2.out HT.out.2) j hlt;subst ea;have HE:=hid (HEM.out.2.2 j hlt);obtain⟨a0,k0,e0,-⟩:=hI.vs;obtain⟨a1,k1,e1,-⟩:=hI.rows;obtain⟨a2,k2,e2,-⟩:=hI.ws;subst e0 e1 e2;clear hI;generalize (tl.getD j qA).rows.length=nr at *;generalize (tl.getD j qA).vs.length=n0 at *;generalize (tl.getD j qA).ws.length=n2 at *;obtain⟨W3,hW3⟩:∃W3,W3=wr.alloc (.cells #[.slice a0 n0 k0,.slice a1 nr k1,.slice a2 n2 k2] 53):=⟨_,rfl⟩;have hB3:Bl wr W3:=by rw[hW3];exact(bI _ _).alloc (nR _) _
    have d1:W3.cell? ⟨wr.heap.size,1,none⟩=some (.slice a1 nr k1):=by rw[hW3,cA _ _ _ _ rfl];rfl
    have HB3:=hid (bt HT.out.2 hB3);have HV:=hid HT.out.1;clear hB3 HT;go_upto_region 6 with fail
    rw[<-hW3];clear hW3 c0 c1 c2;by_cases hz:nr=0
    ·subst hz;go_wp2_with fail
     go_roundw
     case rel=>first|exact⟨j+1,_,by omega,by go_num,rfl,hid ⟨by rw[HE.out];simp,HB3.out⟩⟩|((repeat apply Exists.intro);exact⟨⟨j+1,_,by omega,by go_num,rfl,hid ⟨by rw[HE.out];simp,HB3.out⟩⟩,rfl⟩)
     case measure=>simp[intOf];omega
    ·have q1:((nr:Int) == 0)=false:=by simp;omega
     have HE2:Hid (EM (j+1)=EM j):=hid (by rw[HE.out,decide_eq_false hz,Bool.or_false]);go_wp2_with fail
     go_roundw
     case rel=>first|exact⟨j+1,_,by omega,by go_num,rfl,hid ⟨by rw[HE2.out];exact HV.out,HB3.out⟩⟩|((repeat apply Exists.intro);exact⟨⟨j+1,_,by omega,by go_num,rfl,hid ⟨by rw[HE2.out];exact HV.out,HB3.out⟩⟩,rfl⟩)
     case measure=>simp[intOf];omega
   ·obtain rfl:j=n:=by omega
    have i1:¬(j:Int) < (j:Int):=by omega
    have HF:Hid (Fz w.heap.size (fun W=>ISSn W vl (lvJ tl o 0)) wr/\Bl W2 wr):=hid ⟨by
     rw[HT.out.1,HEM.out.2.1];by_cases he:xJ tl=true
     ·rw[if_pos he,HL0.out he];exact fun _ _=>⟨none,0,rfl,Or.inl rfl⟩
     ·rw[if_neg he,HL1.out (by simpa using he)];exact HN2.out.below HT.out.2,HT.out.2⟩
    clear HT;go_wp2_with fail
    go_meet;exact⟨vl,rfl,HF⟩
 case rest=>
 obtain⟨vl0,rfl,HL⟩:=hcut;have HB4:=hid (bt HB2.out HL.out.2);have HS4:=hid (HS2.out.below HL.out.2);have HI4:=hid HL.out.1;clear HL HB2 HS2 HN2 HEM HL0 HL1 HC;generalize wc=W4 at *;go_wp2_with fail
 go_loopw [7,10,34] (fun v7 v10 t wr=>∃(k vis:Nat) (vl:Value),k<=no/\t=.int .i64 k/\v10=.int .i64 vis/\vl=v7/\Hid (smJ tl o k=true/\vis=viJ tl o k/\Fz w.heap.size (fun W=>ISSn W vl (lvJ tl o k)) wr/\Bl W4 wr)) (fun _ _ t _=>no - (intOf t).toNat)
 case atStart=>exact⟨0,0,_,nZ _,rfl,rfl,rfl,hid ⟨HSm.out.1,HVi.out.1.symm,HI4.out,bI _ _⟩⟩
 case round=>
  clear HI4;obtain⟨k,vis,vl,hk,rfl,rfl,rfl,HT⟩:=hrel;by_cases hlt:k < no
  ·have i1:(k:Int) < (no:Int):=by omega
   obtain⟨hsm,hvis,hIl,hBw⟩:=HT.out;have hvb:vis<=k*10000:=by rw[hvis];exact HVi.out.2.2 k hsm
   have HSmk:=hid hsm;have HVik:=hid hvis;have HBw:=hid (bt HB4.out hBw);have HB4w:=hid hBw;have HSd:=hid (HS4.out.below hBw);have HIl:=hid hIl.self;obtain⟨al,cl,rfl,-⟩:=hIl.self;have hnlb:(lvJ tl o k).length<=10000:=qA8 hsm;clear HT hsm hvis hBw hIl;obtain⟨L,hL⟩:∃L,L=lvJ tl o k:=⟨_,rfl⟩;have HLm:Hid (∀i,i < L.length->L.getD i []∈lvJ tl o k):=hid fun i hi=>by rw[<-hL,gD,gE hi];exact gM _
   have HLn:Hid (lvJ tl o (k+1)=nxL (nxJ tl o) L L.length):=hid (by rw[HLv.out,<-hL];unfold nxL;rw[tL]);have HLle:Hid (∀i,(nxL (nxJ tl o) L i).length<=(lvJ tl o (k+1)).length):=hid fun i=>by rw[HLv.out,<-hL];exact qEH _ _ _
   have HLs:Hid (∀i,i < L.length->nxL (nxJ tl o) L (i+1)=nxL (nxJ tl o) L i++(nxJ tl o (L.getD i [])).map fun v=>L.getD i []++[v]):=hid fun i hi=>qCF _ hi;have HLk:Hid (∀i,i < L.length->(L.getD i []).length=k):=hid fun i hi=>HLl.out k _ (HLm.out i hi);rw[<-hL]at HIl hnlb ⊢;clear hL;obtain⟨nl,hnl⟩:∃nl,nl=L.length:=⟨_,rfl⟩;have HNLe:=hid hnl;rw[<-hnl]at HLm HLn HLs HLk HIl hnlb ⊢
   have HCl:Hid (∀W,Bl wr W->∀i,i < nl->∃b oo ad c,al=some ⟨b,oo,none⟩/\W.cell? ⟨b,oo+i,none⟩=some (.slice (some ad) k c)/\IS W (.slice (some ad) k c) (L.getD i [])):=hid fun W hW i hi=>by
    obtain⟨a',c',e,hh⟩:=HIl.out;simp only[Value.slice.injEq]at e;obtain⟨rfl,-,-⟩:=e;rcases hh with h0|⟨b,oo,ea,hh⟩
    ·omega
    ·obtain⟨ad,c,h1,h2⟩:=hh i (by omega);rw[HLk.out i hi]at h1 h2;exact⟨b,oo,ad,c,ea,qCE hW h1,h2.below hW⟩
   clear hnl HIl;obtain⟨W5,hW5⟩:∃W5,W5=wr.alloc (.cells #[] 24):=⟨_,rfl⟩
   have HS5:Hid (Bl wr W5/\RQ W5 wr.heap.size (.slice (some ⟨wr.heap.size,0,none⟩) 0 0) [] []):=hid (by
    rw[hW5];exact⟨(bI _ _).alloc (nR _) _,oM wr #[] 0 (nR _) (by decide) rfl,rfl,fun i hi=>by simp at hi,fun i j _ hj=>by simp at hj⟩)
   go_upto_region 13 with fail
   rw[<-hW5];clear hW5;generalize wr=wo at *;go_wp2_with fail
   go_loopw [11,39] (fun v11 t wr=>∃(i:Nat) (vn:Value),i<=nl/\t=.int .i64 i/\vn=v11/\Hid (∃un,Bl wo wr/\RQ wr wo.heap.size vn un (nxL (nxJ tl o) L i)/\(nxL (nxJ tl o) L i).length<=10000)) (fun _ t _=>nl - (intOf t).toNat)
   case atStart=>exact⟨0,_,nZ _,rfl,rfl,hid ⟨[],HS5.out.1,HS5.out.2,nZ _⟩⟩
   case round=>
    clear HS5;obtain⟨i,vn,hin,rfl,rfl,HT⟩:=hrel;obtain⟨un,hBm,hQm,hlm⟩:=HT.out;have HBm:=hid hBm;have HQm:=hid hQm;clear HT hBm hQm;by_cases hlt2:i < nl
    ·have i2:(i:Int) < (nl:Int):=by omega
     obtain⟨b,oo,ad,c,ea,e0,hIq0⟩:=HCl.out wo (bI _ _) i hlt2;subst ea;have e1:=qCE HBm.out e0;have hIq:=hIq0.below HBm.out;have HIqW:Hid (∀W,Bl wo W->IS W (.slice (some ad) k c) (L.getD i [])):=hid fun W hW=>hIq0.below hW;clear e0 hIq0;have KN1:=hid (KNx.out wr _ _ (L.getD i []) k (bt HBw.out HBm.out) (HSd.out.below HBm.out) hIq (HLm.out i hlt2) hlt);have HLsi:=hid (HLs.out i hlt2);have HQk:=hid (HLk.out i hlt2);have hxl:=HNL.out (L.getD i []);obtain⟨q,hq⟩:∃q,q=L.getD i []:=⟨_,rfl⟩;rw[<-hq]at KN1 HIqW HLsi HQk hxl;clear hq hIq;obtain⟨xs,hxs⟩:∃xs,xs=nxJ tl o q:=⟨_,rfl⟩;rw[<-hxs]at KN1 HLsi hxl;clear hxs;obtain⟨nx,hnx⟩:∃nx,nx=xs.length:=⟨_,rfl⟩;have HNX:=hid hnx;rw[<-hnx]at KN1 hxl;clear hnx;generalize wr=wm at *;go_upto_block 6 with (first|(go_at_call 50;refine KN1.out.mono ?_;rintro e w6 ⟨gx,cx,rfl,hox,hbx⟩)|fail)
     have HOx:=hid hox;have HB6:=hid (bt HBm.out hbx);have HQ6:=hid (HQm.out.below hbx);clear hox hbx KN1 e1 HQm;go_wp2_with fail
     go_loopw [11,48] (fun v11 t wr=>∃(m:Nat) (vn':Value),m<=nx/\t=.int .i64 m/\vn'=v11/\Hid (∃un',Bl wo wr/\RQ wr wo.heap.size vn' un' (nxL (nxJ tl o) L i++mxL q xs m)/\wr.ownsRow wm.heap.size 3 1 (.slice (some ⟨gx,0,none⟩) nx cx) nx (xs.map (Value.int .i64)))) (fun _ t _=>nx - (intOf t).toNat)
     case atStart=>exact⟨0,vn,nZ _,rfl,rfl,hid ⟨un,HB6.out,by show RQ _ _ _ _ (_++[]);rw[List.append_nil];exact HQ6.out,HOx.out⟩⟩
     case round=>
      clear HOx HQ6;obtain⟨m,vn',hmx,rfl,rfl,HT⟩:=hrel;obtain⟨un',hBr,hQr,hXr⟩:=HT.out;have HBr:=hid hBr;have HQr:=hid hQr;have HXr:=hid hXr;clear HT hBr hQr hXr;have hlen:(nxL (nxJ tl o) L i++mxL q xs m).length=(nxL (nxJ tl o) L i).length+m:=by rw[lA,qDN (by rw[<-HNX.out];exact hmx)]
      by_cases hlt3:m < nx
      ·have i3:(m:Int) < (nx:Int):=by omega
       have cx1:wr.cell? ⟨gx,m,none⟩=some (.int .i64 (xs.getD m 0)):=by
        rw[HXr.out.cellAt m (by omega),bJ,gE (by rw[<-HNX.out];exact hlt3),gD,gE (by rw[<-HNX.out];exact hlt3)];rfl
       have hIw:=HIqW.out _ (bt HBr.out ((bI _ wr).alloc (nR _) (.cells #[] 3)));have HNW:=hid (qCl hIw);have hown0:(wr.alloc (.cells #[] 3)).ownsRow wr.heap.size 3 1 (.slice (some ⟨wr.heap.size,0,none⟩) 0 0) 0 []:=oM wr #[] 0 (nR _) (by decide) rfl;have HW0:=hid hown0;have hwo:wo.heap.size<=wr.heap.size:=HBr.out.size;have hqk:q.length=k:=HQk.out;have HMX:=hid (qCG (q:=q) (xs:=xs) (m:=m) (by rw[<-HNX.out];exact hlt3));have hkb:k<=1000:=by omega
       generalize xs.getD m 0=xv at *;clear hIw hown0;have HQk2:=hid hqk;clear hqk
       go_wp2_with (first
        |(at_builtin;refine wpList_append_own _ rfl _ _ 24 rfl wr.heap.size 3 i0 (.int .i64 0) 1 8 Tryz.underlying24 hi hz0 hz1 hz2 rfl (by decide) (.slice (some ⟨wr.heap.size,0,none⟩) 0 0) 0 [] rfl HW0.out ad k c (q.map (Value.int .i64)) rfl (by rw[lM,HQk2.out];omega) HNW.out (fun u hu=>by obtain⟨x,_,rfl⟩:=List.mem_map.1 hu;rfl) (by unfold maxLen;omega) (by omega) (by simp) ?_;intro v55 w55 hown55 hgrow55 _;have ho55:w55.ownsRow wr.heap.size 3 1 v55 k (q.map (Value.int .i64)):=(by simpa using hown55);have hb55:Bl wr w55:=((bI _ wr).alloc (nR _) (.cells #[] 3)).grown hgrow55 (by simp) (fun k hk=>(HW0.out.lt k hk).1);have hs55:=hb55.size;clear hown55 hgrow55)
        |(at_builtin;refine wpList_append_lies _ rfl _ _ 24 rfl wr.heap.size 3 i0 (.int .i64 0) 1 8 Tryz.underlying24 hi hz0 hz1 hz2 rfl (by decide) v55 _ _ rfl (ho55.alloc _) ⟨_,0,none⟩ 1 1 [.int .i64 xv] rfl rfl (qH _ _ _) (fun u hu=>by simp at hu;subst hu;rfl) (by decide) (by unfold maxLen;omega) (by omega) (by simp;omega) _ rfl ?_;intro g58 c58 w58 hown58 hgrow58 hat58 hlt58;have hb58:Bl wr w58:=(hb55.alloc hs55 _).grown hgrow58 (by simp;omega) (fun k hk=>(ho55.lt k hk).1);have hs58:=hb58.size;have ho58:w58.ownsRow wo.heap.size 24 1 vn' ((nxL (nxJ tl o) L i).length+m) un':=by { have:=(HQr.out.below hb58).own;rw[hlen]at this;exact this })
        |(at_builtin;refine wpList_append_lies _ rfl _ _ 23 rfl wo.heap.size 24 iS (.slice none 0 0) 1 24 Tryz.underlying23 hj hy0 hy1 hy2 rfl (by decide) vn' _ un' rfl (ho58.alloc _) ⟨_,0,none⟩ 1 1 [.slice (some ⟨g58,0,none⟩) (k+1) c58] rfl rfl (qH _ _ _) (fun u hu=>by simp at hu;subst hu;rfl) (by decide) (by unfold maxLen;omega) (by omega) (by simp;omega) _ rfl ?_;intro g60 c60 w60 hown60 hgrow60 hat60 hlt60)
        |fail)
       have HN:Hid (∃un'',Bl wo w60/\RQ w60 wo.heap.size (.slice (some ⟨g60,0,none⟩) ((nxL (nxJ tl o) L i).length+m+1) c60) un'' (nxL (nxJ tl o) L i++mxL q xs (m+1))/\w60.ownsRow wm.heap.size 3 1 (.slice (some ⟨gx,0,none⟩) nx cx) nx (xs.map (Value.int .i64))):=hid (by
        have hQ58:=HQr.out.below hb58
        have hrow:w58.ownsRow wo.heap.size 3 1 (.slice (some ⟨g58,0,none⟩) (k+1) c58) (q++[xv]).length ((q++[xv]).map (Value.int .i64)):=by
         rw[lA,lS,HQk2.out,mA];exact qF hown58 hwo
        have hap:∀j,j < (nxL (nxJ tl o) L i++mxL q xs m).length->∀g,(un'.getD j undef).ownBlock=some g->(Value.slice (some ⟨g58,0,none⟩) (k+1) c58).ownBlock≠some g:=fun j hj g h1 h2=>by
         have a1:=((HQr.out.each j hj).lt g h1).2;have a2:=(hown58.lt g h2).1;omega
        refine⟨un'++[.slice (some ⟨g58,0,none⟩) (k+1) c58],(ud (bt HBr.out hb58) _).grown hgrow60 (by simp;omega) (fun q hq=>(ho58.lt q hq).1),?_,?_⟩
        ·rw[HMX.out,<-List.append_assoc];have:=hQ58.step hrow hap (by rw[hlen];exact hown60) hgrow60;exact this
        ·have hX58:=qB HXr.out hb58;refine qC hX58 fun g hg=>?_;obtain⟨cur,hcur⟩:=qY hX58 hg;exact zi hgrow60 (hX58.lt g hg).2 (own_ne ho58 ⟨cur,hcur⟩ (by decide)))
       clear hown60 hgrow60 hat60 hlt60 hown58 hgrow58 hat58 hlt58 ho58 hb58 hb55 ho55;go_roundw
       case rel=>exact⟨m+1,_,by omega,by go_num,rfl,HN⟩
       case measure=>simp[intOf];omega
      ·obtain rfl:m=nx:=by omega
       have i3:¬((m:Int) < (m:Int)):=by omega
       have HQf:Hid (RQ wr wo.heap.size vn' un' (nxL (nxJ tl o) L (i+1))):=hid (by
        rw[HLsi.out];have:=HQr.out;unfold mxL at this;rw[HNX.out,tL]at this;exact this)
       have HLe:=hid (HLle.out (i+1));have hlf:(nxL (nxJ tl o) L (i+1)).length=(nxL (nxJ tl o) L i).length+m:=by rw[HLsi.out,lA,lM,<-HNX.out]
       obtain⟨av,cv,ev,-,-⟩:=HQf.out.rs.sl;rw[hlf]at ev;subst ev;clear HQr HXr hlen;by_cases hbig:(nxL (nxJ tl o) L i).length+m<=10000
       ·have q9:¬((10000:Int) < (((nxL (nxJ tl o) L i).length+m:Nat):Int)):=by omega
        have HN:Hid (∃un,Bl wo wr/\RQ wr wo.heap.size (.slice av ((nxL (nxJ tl o) L i).length+m) cv) un (nxL (nxJ tl o) L (i+1))/\(nxL (nxJ tl o) L (i+1)).length<=10000):=hid ⟨_,HBr.out,HQf.out,by omega⟩;clear HQf hlf;generalize (nxL (nxJ tl o) L i).length+m=tot at *;go_wp2_with fail
        go_roundw
        case rel=>exact⟨i+1,_,by omega,by go_num,rfl,HN⟩
        case measure=>simp[intOf];omega
       ·have q9:((10000:Int) < (((nxL (nxJ tl o) L i).length+m:Nat):Int)):=by omega
        have hno:smJ tl o no=false:=HSm.out.2.2 k no hlt (by have:=HLe.out;omega);have HNO:=hid hno;clear hlf HQf hno;generalize (nxL (nxJ tl o) L i).length+m=tot at *;go_wp2_with fail
        go_ret2;exact⟨_,by rw[HAN.out,HNO.out];rfl,by rw[HAL.out,HNO.out];exact fun _ _=>⟨_,0,rfl,Or.inl rfl⟩,bt HBw.out (ud HBr.out _)⟩
    ·obtain rfl:i=nl:=by omega
     have i2:¬((i:Int) < (i:Int)):=by omega
     obtain⟨av,cv,ev,-,-⟩:=HQm.out.rs.sl;subst ev
     have HFl:Hid (Fz w.heap.size (fun W=>ISSn W (.slice av (nxL (nxJ tl o) L i).length cv) (lvJ tl o (k+1))) wr):=hid (by
      rw[HLn.out]
      exact(HQm.out.fz.mono HBw.out.size).imp fun W hW=>hW.issn fun j hj=>by
       have hm:(nxL (nxJ tl o) L i).getD j []∈lvJ tl o (k+1):=by rw[HLn.out,gD,gE hj];exact gM _
       have:=HLl.out (k+1) _ hm;omega)
     have HFs:Hid (smJ tl o (k+1)=true/\vis+(nxL (nxJ tl o) L i).length=viJ tl o (k+1)):=hid ⟨by rw[HSm.out.2.1,HSmk.out,Bool.true_and];exact decide_eq_true (by rw[HLn.out];exact hlm),by rw[HVi.out.2.1,HVik.out,HLn.out]⟩;have HBf:=hid (bt HB4w.out HBm.out);clear HQm HBm HCl;generalize (nxL (nxJ tl o) L i).length=tot at *;have hvb2:vis+tot<=100000000:=by omega
     go_wp2_with fail
     go_roundw
     case rel=>exact⟨k+1,vis+tot,_,by omega,by go_num,by first|rfl|go_num|(rw[Int.natCast_add]),rfl,hid ⟨HFs.out.1,HFs.out.2,HFl.out,HBf.out⟩⟩
     case measure=>simp[intOf];omega
  ·obtain rfl:k=no:=by omega
   have i1:¬((k:Int) < (k:Int)):=by omega
   obtain⟨hsm,hvis,hIl,hBw⟩:=HT.out;have HF:Hid (smJ tl o k=true/\vis=viJ tl o k/\Fz w.heap.size (fun W=>ISS W vl (lvJ tl o k)) wr/\Bl w wr):=hid ⟨hsm,hvis,hIl.imp fun _ h=>h.iss,bt HB4.out hBw⟩;clear HT hsm hvis hIl hBw;go_wp2_with fail
   go_ret2;obtain⟨h1,h2,h3,h4⟩:=HF.out;exact⟨_,by rw[HAN.out,h1,if_pos rfl,<-h2];rfl,by rw[HAL.out,h1,if_pos rfl];exact h3,h4⟩
theorem ZL(h:Bl A X)(o:Obj):Bl A (X.alloc o):=h.alloc h.size o
theorem Y5(W:World)(B:Nat)(h:B<=W.heap.size):TCs (W.alloc (.cells #[] 53)) B (.slice (some ⟨W.heap.size,0,none⟩) 0 0) []:=⟨oM W #[] 0 h (by decide) rfl,fun t ht=>by simp at ht⟩
theorem qEV{k x y:Int}{tl:List TbV}{bs:List (List Int)}{ps hs:List Int}{ws:List (Int×Int)}(hr:zv k tl bs ps hs ws (x,y)=true){j:Nat}(hj:j < bs.length)(W:World)(vp vb:Value)(h:ITs W vp (zI tl (bs.getD j [])))(hb:IS W vb (bs.getD j [])):
 Cl 22 #[vp,vb] W fun e w'=>∃(a:Option Addr) (c:Nat),e=.returned (.tuple #[.slice a (bgR tl (bs.getD j [])).length c,.int .i64 (bgV tl (bs.getD j []))])/\Fz W.heap.size (fun X=>ISS X (.slice a (bgR tl (bs.getD j [])).length c) (bgR tl (bs.getD j []))) w'/\Bl W w':=by
 obtain⟨r1,r2,r3,r4,r5⟩:=xx hr;have hok:=qCt r1 r2 (r5 j hj).1;have h6:=zx (r5 j hj).2;have hok':=hok;unfold okJ at hok';rw[bA,bA,dE,aT]at hok';have:=UD W vp vb _ _ h hb (by omega) (by omega) (fun t ht=>QK (hok'.1.2 t ht)) (UB hok'.2);rw[<-(jf hok).1,<-(jf hok).2]at this;refine this.mono ?_;rintro e w' ⟨v,rfl,h1,h2⟩;obtain⟨a,c,rfl,-⟩:=h1.self;exact⟨a,c,rfl,h1,h2⟩
theorem KK(w:World)(vt v0 v1 v2 v3:Value)(k x y:Int)(tl:List TbV)(bs:List (List Int))(ps hs:List Int)(ws:List (Int×Int))(h:ITs w vt tl)(hl:tl.length<=1048576)(hs':∀t∈tl,TvS t)(hp:IPl w v0 v1 v2 v3 bs ps hs ws)(hbs:qQ bs):
 Cl 6 #[.int .i64 k,vt,.agg #[v0,v1,v2,v3,.int .i64 x,.int .i64 y]] w fun e w'=>∃v,e=.returned (.tuple #[v,.int .i64 (xU k tl bs ps hs ws (x,y))])/\ITs w' v (zZ k tl bs ps hs ws (x,y))/\Bl w w':=by
 obtain⟨iT,hj,hz0,hz1,hz2⟩:=info_parts Tryz.infoTb;obtain⟨i0,hi,hy0,hy1,hy2⟩:=info_parts Tryz.infoInt;have KR:Hid (∀W,Bl w W->Cl 19 #[.int .i64 k,vt,.agg #[v0,v1,v2,v3,.int .i64 x,.int .i64 y]] W fun e w'=>e=.returned (.bool (zv k tl bs ps hs ws (x,y)))/\Bl W w'):=hid fun W hW=>YP W vt v0 v1 v2 v3 k x y tl bs ps hs ws (h.below hW) hl hs' (hp.below hW) hbs;have KJ:Hid (zv k tl bs ps hs ws (x,y)=true->∀j,j < bs.length->∀W vp vb,ITs W vp (zI tl (bs.getD j []))->IS W vb (bs.getD j [])->Cl 22 #[vp,vb] W fun e w'=>∃(a:Option Addr) (c:Nat),e=.returned (.tuple #[.slice a (bgR tl (bs.getD j [])).length c,.int .i64 (bgV tl (bs.getD j []))])/\Fz W.heap.size (fun X=>ISS X (.slice a (bgR tl (bs.getD j [])).length c) (bgR tl (bs.getD j []))) w'/\Bl W w'):=hid fun hr j hj W vp vb h1 h2=>qEV hr hj W vp vb h1 h2
 have HCB:Hid (zv k tl bs ps hs ws (x,y)=true->∀W,Bl w W->∀j,j < bs.length->∃(a:Option Addr) (b o:Nat) (ad:Addr) (cu cap:Nat),v0=.slice a bs.length cap/\a=some ⟨b,o,none⟩/\W.cell? ⟨b,o+j,none⟩=some (.slice (some ad) (bs.getD j []).length cu)/\IS W (.slice (some ad) (bs.getD j []).length cu) (bs.getD j [])):=hid fun hr W hW j hj=>by
  obtain⟨a,cap,e,hh⟩:=(hp.below hW).b;rcases hh with h0|⟨b,o,ea,hh⟩
  ·omega
  ·obtain⟨u,h1,h2⟩:=hh j hj;obtain⟨au,cu,eu,h3⟩:=id h2;have hb:=((xx hr).2.2.2.2 j hj).1;unfold zj at hb;rw[bA,bA]at hb;have hb0:=hb.1.1;rcases h3 with h3|⟨b2,o2,rfl,-⟩
   ·rw[h3]at hb0;simp at hb0
   ·subst eu;exact⟨a,b,o,_,cu,cap,e,ea,h1,h2⟩
 have HOf:Hid (zv k tl bs ps hs ws (x,y)=true->tl.length<=7/\bs.length<=12/\(∀j,j < tl.length->qc (tl.getD j qA)=true)/\∀j,j < bs.length->(bs.getD j []).length<=6):=hid fun hr=>by
  obtain⟨r1,r2,r3,r4,r5⟩:=xx hr;exact⟨r4,r3,fun j hj=>aT.1 r1 _ (by rw[gD,gE hj];exact gM _),fun j hj=>zx (r5 j hj).2⟩
 have HNo:Hid (zv k tl bs ps hs ws (x,y)=false->zZ k tl bs ps hs ws (x,y)=[]/\xU k tl bs ps hs ws (x,y)=-1):=hid qCi;have HNeg:Hid (∀j,j < bs.length->bgV tl (bs.getD j []) < 0->zZ k tl bs ps hs ws (x,y)=[]/\xU k tl bs ps hs ws (x,y)=-1):=hid fun j hj hn=>qAb hj hn;have HYes:Hid (zv k tl bs ps hs ws (x,y)=true->(∀i,i < bs.length->0<=bgV tl (bs.getD i []))->zZ k tl bs ps hs ws (x,y)=bs.map (bgT tl)/\xU k tl bs ps hs ws (x,y)=zl tl bs bs.length):=hid qAc;have HSu:Hid (∀j,j < bs.length->zl tl bs (j+1)=zl tl bs j+bgV tl (bs.getD j [])):=hid fun j hj=>kI hj;have HSl:Hid (∀j,j<=bs.length->-1*(j:Int)<=zl tl bs j/\zl tl bs j<=60000*(j:Int)):=hid (XF tl bs);have HSv:Hid (∀b,(-1<=bgV tl b/\bgV tl b<=60000)/\(bgR tl b).length<=10000):=hid fun b=>⟨⟨XE,XD⟩,yb.1⟩;have HMt:Hid (∀j,j < bs.length->(bs.take (j+1)).map (bgT tl)=(bs.take j).map (bgT tl)++[bgT tl (bs.getD j [])]):=hid fun j hj=>Xu hj;have HMn:Hid ((bs.take bs.length).map (bgT tl)=bs.map (bgT tl)):=hid (by rw[tL]);have HPS:Hid (∀b j,j < tl.length->zI (tl.take (j+1)) b=zI (tl.take j) b++(if hasB b (tl.getD j qA) then [prT b (tl.getD j qA)] else [])):=hid fun b j hj=>Xt hj;have HPl:Hid (∀b j,(zI (tl.take j) b).length<=j):=hid fun b j=>bK (jN _ _) (by rw[bQ];omega);have HPn:Hid (∀b,zI (tl.take tl.length) b=zI tl b):=hid fun b=>by rw[tL]
 obtain⟨a0,k0,rfl,-⟩:=hp.b;obtain⟨a1,k1,rfl,-⟩:=hp.p;obtain⟨a2,k2,rfl,-⟩:=hp.h;obtain⟨a3,k3,rfl,-⟩:=hp.d;clear hp hbs hs';obtain⟨at',ct,rfl,hc⟩:=h
 have HC:Hid (∀W,Bl w W->∀j,j < tl.length->∃b oo,at'=some ⟨b,oo,none⟩/\TabAt W b (oo+j*3) (tl.getD j qA)):=hid fun W hW j hj=>by
  rcases hc with h0|⟨b,oo,rfl,h⟩
  ·omega
  ·exact⟨b,oo,rfl,(h j hj).below hW⟩
 generalize zv k tl bs ps hs ws (x,y)=RD at *;generalize zZ k tl bs ps hs ws (x,y)=GT at *;generalize xU k tl bs ps hs ws (x,y)=GV at *;obtain⟨n,hn⟩:∃n,n=tl.length:=⟨_,rfl⟩;rw[<-hn]at hl KR HC HOf HPS HPn ⊢;clear hn hc;obtain⟨nb,hnb⟩:∃nb,nb=bs.length:=⟨_,rfl⟩;rw[<-hnb]at KR KJ HCB HNeg HYes HSu HSl HMt HMn HOf ⊢;clear hnb;generalize ps.length=np at *;generalize hs.length=nh at *;generalize ws.length=nw at *;obtain⟨W1,hW1⟩:∃W1,W1=w.alloc (.cells #[.slice a0 nb k0,.slice a1 np k1,.slice a2 nh k2,.slice a3 nw k3,.int .i64 x,.int .i64 y] 39):=⟨_,rfl⟩;have HX1:Hid (PX 39 W1 w.heap.size (.slice a0 nb k0) (.slice a1 np k1) (.slice a2 nh k2) (.slice a3 nw k3) x y):=hid (by rw[hW1];exact PX.made _ _ _ _ _ _ _ _);have HB1:Hid (Bl w W1):=hid (by rw[hW1];exact(bI _ _).alloc (nR _) _);obtain⟨s0,s1,s2,s3,s4,s5⟩:=HX1.out.six;have KR1:=hid (KR.out W1 HB1.out);have HEnd:Hid (∀W,Bl w W->GT=[]/\GV=-1->∃v,Ending.returned (.tuple #[.slice (some ⟨W.heap.size,0,none⟩) 0 0,.int .i64 (-1)])=.returned (.tuple #[v,.int .i64 GV])/\ITs (W.alloc (.cells #[] 53)) v GT/\Bl w (W.alloc (.cells #[] 53))):=hid fun W hW hg=>⟨_,by rw[hg.2],by rw[hg.1];exact⟨_,0,rfl,Or.inl rfl⟩,ZL hW _⟩;cases RD with
 |false=>
  have HG:=hid (HNo.out rfl);clear HNo HNeg HYes KJ HCB HOf;go_enter Tryz.func6,Tryz.ntmps6
  go_upto_region 1 with fail
  rw[<-hW1];clear hW1;go_wp2_with (first|(go_at_call 19;refine KR1.out.mono ?_;rintro e w2 ⟨rfl,hb2⟩)|fail)
  go_ret2;exact HEnd.out _ (bt HB1.out hb2) HG.out
 |true=>
  have HKJ:=hid (KJ.out rfl);have HYs:=hid (HYes.out rfl);have HCb:=hid (HCB.out rfl);obtain⟨h7,h12,hof,hb6⟩:=HOf.out rfl;have HOK:=hid hof;have HB6:=hid hb6;clear KJ HYes HCB HOf HNo hof hb6 KR;go_enter Tryz.func6,Tryz.ntmps6
  go_upto_region 1 with fail
  rw[<-hW1];clear hW1;go_upto_region 3 with (first|(go_at_call 19;refine KR1.out.mono ?_;rintro e w4 ⟨rfl,hb4⟩)|fail)
  have HX4:=hid (HX1.out.below hb4);have HB4:=hid (bt HB1.out hb4);have hs4:w.heap.size<=w4.heap.size:=HB4.out.size;clear s0 s1 s2 s3 s4 s5 KR1 hb4 HX1;obtain⟨W5,hW5⟩:∃W5,W5=w4.alloc (.cells #[] 53):=⟨_,rfl⟩;have HS5:Hid (Bl w4 W5/\TCs W5 w4.heap.size (.slice (some ⟨w4.heap.size,0,none⟩) 0 0) []):=hid (by rw[hW5];exact⟨(bI _ _).alloc (nR _) _,Y5 w4 _ (nR _)⟩);have c5:=(HX4.out.below HS5.out.1).six.1;go_upto_region 4 with fail
  rw[<-hW5];clear hW5;go_wp2_with fail
  clear c5;have HZ0:Hid ((0:Int)=zl tl bs 0):=hid rfl;go_loopw [8,9,28] (fun v8 v9 t wr=>∃(j:Nat) (vj:Value) (z:Int),j<=nb/\t=.int .i64 j/\vj=v8/\v9=.int .i64 z/\Hid (z=zl tl bs j/\(∃rl,Bl w4 wr/\TCs wr w4.heap.size vj rl/\rl.map TbC.t=(bs.take j).map (bgT tl))/\∀i,i < j->0<=bgV tl (bs.getD i []))) (fun _ _ t _=>nb - (intOf t).toNat)
  case atStart=>exact⟨0,_,0,nZ _,rfl,rfl,rfl,hid ⟨HZ0.out,⟨[],HS5.out.1,HS5.out.2,rfl⟩,fun i hi=>by omega⟩⟩
  case round=>
   clear HS5 HZ0;obtain⟨j,vj,z,hjn,rfl,rfl,rfl,HT⟩:=hrel;obtain⟨hz,⟨rl,hB,hT,hE⟩,hV⟩:=HT.out;have HB:=hid hB;have HTb:=hid hT;have HE:=hid hE;have HV:=hid hV;have HZ:=hid hz;have hzl:=HSl.out j hjn;rw[<-hz]at hzl;clear HT hB hT hE hV hz;by_cases hlt:j < nb
   ·have i1:(j:Int) < (nb:Int):=by omega
    have HBw:=hid (bt HB4.out HB.out);obtain⟨a,b,o,ad,cu,cap,ev,ea,e1,hu⟩:=HCb.out wr HBw.out j hlt;simp only[Value.slice.injEq,true_and]at ev;obtain⟨rfl,-⟩:=ev;subst ea;have HU:=hid hu;have KJ1:=hid (HKJ.out j hlt);have HNj:=hid (HNeg.out j hlt);have HMj:=hid (HMt.out j hlt);have HSj:=hid (HSu.out j hlt);obtain⟨hvb,hrb⟩:=HSv.out (bs.getD j []);have hb6:=HB6.out j hlt
    have HVj:Hid (0<=bgV tl (bs.getD j [])->∀i,i < j+1->0<=bgV tl (bs.getD i [])):=hid fun hy i hi=>by
     by_cases e:i=j
     ·rw[e];exact hy
     ·exact HV.out i (by omega)
    have HBT:Hid (bgT tl (bs.getD j [])=⟨bs.getD j [],bgR tl (bs.getD j []),xW (bgR tl (bs.getD j [])).length⟩):=hid rfl;generalize bs.getD j []=bg at *;obtain⟨lb,hlb⟩:∃lb,lb=bg.length:=⟨_,rfl⟩;have HLB:=hid hlb;rw[<-hlb]at e1 HU hb6;have HNW:Hid (∀X,Bl wr X->∀j u,(bg.map (Value.int .i64))[j]?=some u->X.cell? (ad.add j)=some u):=hid fun X hX=>qCl (HU.out.below hX);clear hu hlb HCb HKJ HNeg HMt HSu HSl HSv HB6;go_upto_region 8 with fail
    obtain⟨W6,hW6⟩:∃W6,W6=wr.alloc (.cells #[] 53):=⟨_,rfl⟩;have HS6:Hid (Bl wr W6/\TCs W6 wr.heap.size (.slice (some ⟨wr.heap.size,0,none⟩) 0 0) []):=hid (by rw[hW6];exact⟨(bI _ _).alloc (nR _) _,Y5 wr _ (nR _)⟩);go_upto_region 9 with fail
    rw[<-hW6];clear hW6 e1;generalize wr=wo at *;go_upto_block 2 with fail
    go_cut [12] (fun v12 wx=>∃vp,vp=v12/\Hid (∃pl,Bl wo wx/\TCs wx wo.heap.size vp pl/\pl.map TbC.t=zI tl bg))
    case first=>
     clear KJ1 HNj HMj HSj HVj HBT HTb HE HV HZ HEnd HNW;go_wp2_with fail
     go_loopw [12,35] (fun v12 t wr=>∃(i:Nat) (vp:Value),i<=n/\t=.int .i64 i/\vp=v12/\Hid (∃pl,Bl wo wr/\TCs wr wo.heap.size vp pl/\pl.map TbC.t=zI (tl.take i) bg)) (fun _ t _=>n - (intOf t).toNat)
     case atStart=>exact⟨0,_,nZ _,rfl,rfl,hid ⟨[],HS6.out.1,HS6.out.2,rfl⟩⟩
     case round=>
      clear HS6;obtain⟨i,vp,hin,rfl,rfl,HT⟩:=hrel;obtain⟨pl,hBp,hTp,hEp⟩:=HT.out;have HBp:=hid hBp;have HTp:=hid hTp;have HEp:=hid hEp;clear HT hBp hTp hEp;by_cases hlt2:i < n
      ·have i2:(i:Int) < (n:Int):=by omega
       obtain⟨bb,oo,ea,u0,u1,u2,c0,c1,c2,hI⟩:=HC.out wr (bt HBw.out HBp.out) i hlt2;subst ea;have HPj:=hid (HPS.out bg i hlt2);have htab:=HOK.out i hlt2;have hpl:=HPl.out bg i;generalize tl.getD i qA=tb at *;obtain⟨hset,hr4,hrw⟩:=zK htab;have HRw:=hid hrw;have h6:=zx hset;obtain⟨W7,hW7⟩:∃W7,W7=wr.alloc (.cells #[u0,u1,u2] 53):=⟨_,rfl⟩;have hB7:Bl wr W7:=by rw[hW7];exact(bI _ _).alloc (nR _) _
       have HX7:Hid (TX W7 wr.heap.size u0 u1 u2):=hid (by rw[hW7];exact TX.made _ _ _ _);have HI7:=hid (hI.below hB7);have HB7:=hid hB7;obtain⟨y0,k0',e0,-⟩:=hI.vs;obtain⟨y1,k1',e1,-⟩:=hI.rows;obtain⟨y2,k2',e2,-⟩:=hI.ws;subst e0 e1 e2;have KS:Hid (Cl 20 #[.slice y0 tb.vs.length k0',.slice (some ad) lb cu] W7 fun e w'=>∃g cap,e=.returned (.slice (some ⟨g,0,none⟩) (shr tb.vs bg).length cap)/\w'.ownsRow W7.heap.size 3 1 (.slice (some ⟨g,0,none⟩) (shr tb.vs bg).length cap) (shr tb.vs bg).length ((shr tb.vs bg).map (Value.int .i64))/\Bl W7 w'):=hid (ku W7 _ _ tb.vs bg HI7.out.vs (by omega) (HU.out.below (bt HBp.out HB7.out)) (by rw[<-HLB.out];omega))
       have KX:Hid (∀W g c,Bl W7 W->IS W (.slice (some ⟨g,0,none⟩) (shr tb.vs bg).length c) (shr tb.vs bg)->Cl 21 #[.agg #[.slice y0 tb.vs.length k0',.slice y1 tb.rows.length k1',.slice y2 tb.ws.length k2'],.slice (some ⟨g,0,none⟩) (shr tb.vs bg).length c] W fun e w'=>∃(q0:Option Addr) (m0 z0:Nat) (q1:Option Addr) (m1 z1:Nat) (q2:Option Addr) (m2 z2:Nat),e=.returned (.agg #[.slice q0 m0 z0,.slice q1 m1 z1,.slice q2 m2 z2])/\Fz W.heap.size (fun X=>ITc X ⟨.slice q0 m0 z0,.slice q1 m1 z1,.slice q2 m2 z2,prT bg tb⟩) w'/\Bl W w'):=hid fun W g c hW hv=>by
        refine(ZB W _ _ _ ⟨g,0,none⟩ c tb.vs tb.rows tb.ws (shr tb.vs bg) (HI7.out.below hW) hv (bK (y8 _ _) (by omega)) (by omega) (by omega) HRw.out).mono ?_;rintro e w' ⟨x0,x1,x2,rfl,hF,hb'⟩;obtain⟨q0,z0,e0,-⟩:=hF.self.vs;obtain⟨q1,z1,e1,-⟩:=hF.self.rows;obtain⟨q2,z2,e2,-⟩:=hF.self.ws;subst e0 e1 e2;exact⟨_,_,_,_,_,_,_,_,_,rfl,hF,hb'⟩
       have hlp:(shr tb.vs bg).length<=6:=bK (y8 _ _) h6;have hph:hasB bg tb=decide (0 < (shr tb.vs bg).length):=rfl;rw[hph]at HPj;clear hph hI htab hset hr4 hrw h6 HI7 hB7 HRw HC HOK HPS HPl HPn;obtain⟨ns,hns⟩:∃ns,ns=(shr tb.vs bg).length:=⟨_,rfl⟩;have HNS:=hid hns;rw[<-hns]at KS KX HPj hlp;clear hns;obtain⟨tv,htv⟩:∃tv,tv=prT bg tb:=⟨_,rfl⟩;rw[<-htv]at HPj KX;clear htv;generalize tb.vs.length=l0 at *;generalize tb.rows.length=l1 at *;generalize tb.ws.length=l2 at *;go_upto_region 12 with fail
       rw[<-hW7];clear hW7 c0 c1 c2;have d0:=HX7.out.c0;by_cases hpos:0 < ns
       ·have i3:(0:Int) < (ns:Int):=by omega
        rw[decide_eq_true hpos,if_pos rfl]at HPj;go_upto_region 14 with (first|(go_at_call 20;refine KS.out.mono ?_;rintro e w8 ⟨g8,k8,rfl,ho8,hb8⟩)|fail)
        have hX8:=HX7.out.below hb8;have t0:=hX8.c0;have t1:=hX8.c1;have t2:=hX8.c2;have KX1:=hid (KX.out w8 g8 k8 hb8 (qW (by rw[<-HNS.out];exact ho8)));have HB8:=hid (bt HB7.out hb8);have hs8:wr.heap.size<=w8.heap.size:=HB8.out.size;have hso:wo.heap.size<=wr.heap.size:=HBp.out.size;have hll:pl.length<=7:=by have h1:=congrArg List.length HEp.out;rw[lM]at h1;omega
        clear hX8 ho8 hb8 KS KX d0 HX7
        go_wp2_with (first
         |(at_builtin;refine wpList_append_lies _ rfl _ _ 32 rfl wo.heap.size 53 iT (.agg #[.slice none 0 0,.slice none 0 0,.slice none 0 0]) 3 72 Tryz.underlying32 hj hz0 hz1 hz2 rfl (by decide) vp pl.length (pl.flatMap tcc) rfl ((qB HTp.out.own hq9).alloc _) ⟨_,0,none⟩ 1 1 [.slice q0 m0 z0,.slice q1 m1 z1,.slice q2 m2 z2] rfl rfl (vk _ _ _ _ _) (fun u hu=>by simp at hu;rcases hu with rfl|rfl|rfl <;> rfl) (by decide) (by unfold maxLen;omega) (by omega) (by have:=hq9.size;simp;omega) _ rfl ?_;intro g10 cp10 w10 hown10 hgrow10 hat10 hlt10)
         |(go_at_call 21;refine KX1.out.mono ?_;rintro e w9 ⟨q0,m0,z0,q1,m1,z1,q2,m2,z2,rfl,hF9,hb9⟩;have hq9:Bl wr w9:=bt HB8.out hb9)
         |fail)
        have HN:Hid (∃pl',Bl wo w10/\TCs w10 wo.heap.size (.slice (some ⟨g10,0,none⟩) (pl.length+1) cp10) pl'/\pl'.map TbC.t=zI (tl.take (i+1)) bg):=hid ⟨_,(ZL (bt HBp.out hq9) _).grown hgrow10 (by have:=hq9.size;simp;omega) (fun q hq=>((qB HTp.out.own hq9).lt q hq).1),HTp.out.push (r:=⟨.slice q0 m0 z0,.slice q1 m1 z1,.slice q2 m2 z2,tv⟩) hq9 (hF9.mono hs8) hgrow10 hown10 hat10,by rw[mA,HEp.out,HPj.out];rfl⟩;clear hown10 hgrow10 hat10 hlt10 hF9 hb9 hq9 KX1 HTp HEp t0 t1 t2;go_roundw
        case rel=>exact⟨i+1,_,by omega,by go_num,rfl,HN⟩
        case measure=>simp[intOf];omega
       ·obtain rfl:ns=0:=by omega
        rw[show decide (0 < 0)=false from rfl,if_neg (by decide),List.append_nil]at HPj;go_wp2_with (first|(go_at_call 20;refine KS.out.mono ?_;rintro e w8 ⟨g8,k8,rfl,ho8,hb8⟩;have HB8:=hid (bt HB7.out hb8);clear ho8 hb8 d0)|fail)
        go_roundw
        case rel=>exact⟨i+1,_,by omega,by go_num,rfl,hid ⟨pl,bt HBp.out HB8.out,HTp.out.below HB8.out,by rw[HPj.out];exact HEp.out⟩⟩
        case measure=>simp[intOf];omega
      ·obtain rfl:i=n:=by omega
       have i2:¬((i:Int) < (i:Int)):=by omega
       have HF:Hid (∃pl,Bl wo wr/\TCs wr wo.heap.size vp pl/\pl.map TbC.t=zI tl bg):=hid ⟨pl,HBp.out,HTp.out,by rw[<-HPn.out];exact HEp.out⟩;clear HBp HTp HEp;go_wp2_with fail
       go_meet;exact⟨vp,rfl,HF⟩
    case rest=>
     obtain⟨vp,rfl,HR⟩:=hcut;obtain⟨pl,hBp,hTp,hEp⟩:=HR.out;generalize wc=w9 at *;have KJ2:=hid (KJ1.out w9 vp (.slice (some ad) lb cu) (by rw[<-hEp];exact hTp.its) (HU.out.below hBp));have HB9:=hid hBp;clear HR hBp hTp hEp KJ1 HS6 HC HOK HPS HPl HPn HU;obtain⟨RR,hRR⟩:∃RR,RR=bgR tl bg:=⟨_,rfl⟩;rw[<-hRR]at KJ2 HBT hrb;clear hRR;obtain⟨tv,htv⟩:∃tv,tv=bgT tl bg:=⟨_,rfl⟩;rw[<-htv]at HBT HMj;clear htv;obtain⟨nr,hnr⟩:∃nr,nr=RR.length:=⟨_,rfl⟩;have HNR:=hid hnr;rw[<-hnr]at KJ2 hrb;clear hnr;generalize bgV tl bg=BV at *;go_upto_region 17 with (first|(go_at_call 22;refine KJ2.out.mono ?_;rintro e w10 ⟨ar,cr,rfl,hF10,hb10⟩)|fail)
     have HF10:=hid hF10;have HB10:=hid (bt HB9.out hb10);have hs9:wo.heap.size<=w9.heap.size:=HB9.out.size;have hs10:wo.heap.size<=w10.heap.size:=HB10.out.size;clear hF10 hb10 KJ2;by_cases hneg:BV < 0
     ·have HG:=hid (HNj.out hneg);clear HF10 HTb HE HV HVj HNj HMj HSj;go_wp2_with fail
      go_ret2;exact HEnd.out _ (bt HBw.out HB10.out) HG.out
     ·have hlr:rl.length<=12:=by have h1:=congrArg List.length HE.out;rw[lM,lM,bQ]at h1;omega
      have hsw:w4.heap.size<=wo.heap.size:=HB.out.size;have hlbb:bg.length=lb:=HLB.out.symm;have HLb:=hid hlbb;have HW0:Hid ((w10.alloc (.cells #[] 3)).ownsRow w10.heap.size 3 1 (.slice (some ⟨w10.heap.size,0,none⟩) 0 0) 0 []):=hid (oM w10 #[] 0 (nR _) (by decide) rfl);have HNW1:=hid (HNW.out (w10.alloc (.cells #[] 3)) (ZL HB10.out _));have HTo:Hid (∀W,Bl wo W->W.ownsRow w4.heap.size 53 3 vj rl.length (rl.flatMap tcc)):=hid fun W hW=>qB HTb.out.own hW;have KO:Hid (∀W,Cl 23 #[.int .i64 nr] W fun e w'=>∃v,e=.returned v/\w'.ownsRow W.heap.size 3 1 v nr (List.replicate nr (.int .i64 1))/\Bl W w'):=hid fun W=>Yz W nr (by omega);clear hlbb
      go_wp2_with (first
       |(at_builtin;refine wpList_append_lies _ rfl _ _ 32 rfl w4.heap.size 53 iT (.agg #[.slice none 0 0,.slice none 0 0,.slice none 0 0]) 3 72 Tryz.underlying32 hj hz0 hz1 hz2 rfl (by decide) vj rl.length (rl.flatMap tcc) rfl ((HTo.out _ hq12).alloc _) ⟨_,0,none⟩ 1 1 [.slice q0 lb z0,.slice ar nr cr,.slice q2 nr z2] rfl rfl (vk _ _ _ _ _) (fun u hu=>by simp at hu;rcases hu with rfl|rfl|rfl <;> rfl) (by decide) (by unfold maxLen;omega) (by omega) (by have:=hq12.size;simp;omega) _ rfl ?_;intro g13 cp13 w13 hown13 hgrow13 hat13 hlt13)
       |(at_builtin;refine wpList_append_own _ rfl _ _ 24 rfl w10.heap.size 3 i0 (.int .i64 0) 1 8 Tryz.underlying24 hi hy0 hy1 hy2 rfl (by decide) (.slice (some ⟨w10.heap.size,0,none⟩) 0 0) 0 [] rfl HW0.out ad lb cu (bg.map (Value.int .i64)) rfl (by rw[lM,HLb.out];omega) HNW1.out (fun u hu=>by obtain⟨x,_,rfl⟩:=List.mem_map.1 hu;rfl) (by unfold maxLen;omega) (by omega) (by simp) ?_;intro v11 w11 hown11 hgrow11 _;have ho11:w11.ownsRow w10.heap.size 3 1 v11 lb (bg.map (Value.int .i64)):=(by simpa using hown11);obtain⟨q0,z0,e0⟩:=qT ho11;subst e0;have hq11:Bl w10 w11:=(ZL (bI _ _) _).grown hgrow11 (by simp) (fun q hq=>(HW0.out.lt q hq).1))
       |(go_at_call 23;refine(KO.out w11).mono ?_;rintro e w12 ⟨v12,rfl,ho12,hb12⟩;obtain⟨q2,z2,e2⟩:=qT ho12;subst e2;have hq12:Bl wo w12:=bt HB10.out (bt hq11 hb12))
       |fail)
      have HN:Hid (z+BV=zl tl bs (j+1)/\(∃rl',Bl w4 w13/\TCs w13 w4.heap.size (.slice (some ⟨g13,0,none⟩) (rl.length+1) cp13) rl'/\rl'.map TbC.t=(bs.take (j+1)).map (bgT tl))/\∀i,i < j+1->0<=bgV tl (bs.getD i [])):=hid ⟨by rw[HSj.out,HZ.out],⟨_,(ZL (bt HB.out hq12) _).grown hgrow13 (by have:=hq12.size;simp;omega) (fun q hq=>((HTo.out _ hq12).lt q hq).1),HTb.out.push (r:=⟨.slice q0 lb z0,.slice ar nr cr,.slice q2 nr z2,tv⟩) hq12 (fun W' hW'=>by
       rw[HBT.out];refine⟨?_,?_,?_⟩
       ·exact((qAw (l:=bg) (by rw[HLb.out];exact qB ho11 hb12)).mono hs10) W' hW'
       ·exact((HF10.out.below (bt hq11 hb12)).mono hs9) W' hW'
       ·exact((qAw (l:=xW RR.length) (by rw[y7,uj,<-HNR.out];exact ho12)).mono (bK hs10 hq11.size)) W' hW') hgrow13 hown13 hat13,by rw[mA,HE.out,HMj.out];rfl⟩,HVj.out (by omega)⟩
      clear hown13 hgrow13 hat13 hlt13 ho11 ho12 hown11 hgrow11 hb12 hq11 hq12 HTb HE HV HVj HNj HMj HSj HZ HTo HF10 HW0 HNW1 HBT;go_wp2_with fail
      go_roundw
      case rel=>exact⟨j+1,_,z+BV,by omega,by go_num,rfl,rfl,HN⟩
      case measure=>simp[intOf];omega
   ·obtain rfl:j=nb:=by omega
    have i1:¬((j:Int) < (j:Int)):=by omega
    have HG:=hid (HYs.out HV.out);go_wp2_with fail
    go_ret2;exact⟨vj,by rw[HG.out.2,<-HZ.out];rfl,by rw[HG.out.1,<-HMn.out,<-HE.out];exact HTb.out.its,bt HB4.out HB.out⟩
end Go.Proofs.YtjbpgdpciinlcaaGreat
