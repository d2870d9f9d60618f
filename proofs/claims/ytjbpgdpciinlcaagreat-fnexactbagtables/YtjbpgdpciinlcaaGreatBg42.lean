import Derived.Test.YtjbpgdpciinlcaaGreatBg41
set_option maxHeartbeats 40000000
set_option maxRecDepth 1000000
namespace Go.Proofs.YtjbpgdpciinlcaaGreat
open Go.RowKit
theorem qDU(W:World)(k:Int)(x y:Value):∀j u,[.slice (some ⟨W.heap.size,0,none⟩) 1 1,x,y][j]?=some u->((W.alloc (.cells #[.int .i64 k] 3)).alloc (.cells #[.slice (some ⟨W.heap.size,0,none⟩) 1 1,x,y] 145)).cell? ((⟨W.heap.size+1,0,none⟩:Addr).add j)=some u:=by
 have:=uX (W.alloc (.cells #[.int .i64 k] 3)) (.slice (some ⟨W.heap.size,0,none⟩) 1 1) x y 145;rw[show(W.alloc (.cells #[.int .i64 k] 3)).heap.size=W.heap.size+1 by simp]at this;exact this
theorem Ym(w:World)(vb ve:Value)(bag:List Int)(es:List (List Int))(hb:IS w vb bag)(h:ISS w ve es)(hl:qQ es)(he:zL es=true)(hg:GoodBag es bag)(hne:1<=bag.length):
 Cl 90 #[vb,ve] w fun e w'=>e=.returned (.agg #[.int .i64 (wdR es bag).num,.int .i64 (wdR es bag).den])/\Bl w w':=by
 obtain⟨i0,hi,hz0,hz1,hz2⟩:=info_parts Tryz.infoInt;obtain⟨iD,hj,hy0,hy1,hy2⟩:=info_parts Tryz.infoDem;obtain⟨iS,hk,hx0,hx1,hx2⟩:=info_parts Tryz.infoIS;have hb6:=jU hg.set;have he7:=yW he;have hnd:=JF he;have hcov:=JK hnd (YG hg.cov);obtain⟨y,hy,hpy⟩:=uN (bag:=bag) (es:=zc bag es) (by omega) hcov;obtain⟨x,hx,px⟩:=hg.best;have HSUM:Hid (Cov.sm (zc bag es).length y=wdR es bag):=hid (by rw[<-JJ hnd hx hy];exact UK hx px);have HY:=hid hy;have HPY:=hid hpy
 have hP1:1<=(zc bag es).length:=by
  obtain⟨e,h1,-⟩:=hcov 0 (by omega);omega
 have hP7:(zc bag es).length<=7:=by
  have:=qCR bag es;rw[yH];omega
 have HIS:=hid hb;have HES:=hid h;obtain⟨aB,cB,rfl,hcB⟩:=hb;obtain⟨aE,cE,rfl,-⟩:=h;have HLE:=hid hl.2
 have HCB:Hid (∀j,j < bag.length->∃b o,aB=some ⟨b,o,none⟩/\w.cell? ⟨b,o+j,none⟩=some (.int .i64 (bag.getD j 0))):=hid (fun j hj=>by
  rcases hcB with h0|⟨b,o,e,hc⟩
  ·omega
  ·exact⟨b,o,e,hc j (by omega)⟩)
 have HCE:Hid (∀j,j < es.length->∃b o u,aE=some ⟨b,o,none⟩/\w.cell? ⟨b,o+j,none⟩=some u/\IS w u (es.getD j [])):=hid (fun j hj=>HES.out.get rfl (by omega))
 have KSH:Hid (∀W u j,Bl w W->j < es.length->IS W u (es.getD j [])->Cl 20 #[u,.slice aB bag.length cB] W fun e w'=>∃u,e=.returned u/\w'.ownsRow W.heap.size 3 1 u (qL bag (es.getD j [])).length ((qL bag (es.getD j [])).map (Value.int .i64))/\Bl W w'):=
  hid fun W u j hW hj hu=>Xc W u _ (es.getD j []) bag hu (HLE.out j) (HIS.out.below hW) (by omega)
 have HPS:=hid (qAM bag es);have HHIT:Hid (∀k,yf bag es k=true->zf bag es (k+1)=zf bag es k++[qL bag (es.getD k [])]):=hid fun k=>qAL;have HMISS:Hid (∀k,yf bag es k=false->zf bag es (k+1)=zf bag es k):=hid fun k=>JU;have HULE:=hid (qBO bag es);have HNU0:Hid (∀i,yh bag es i 0=decide (0 < (qL bag (es.getD i [])).length)):=hid fun i=>by simp[yh]
 have HNUS:Hid (∀i j,yh bag es i (j+1)=(yh bag es i j&&!jl bag es i j)):=hid qAN;have HNUN:Hid (∀i,yh bag es i es.length=yf bag es i):=hid fun i=>rfl;have HOV:Hid (∀i j,jl bag es i j=(decide (j≠i)&&xi (qL bag (es.getD i [])) (qL bag (es.getD j []))&&(decide ((qL bag (es.getD i [])).length < (qL bag (es.getD j [])).length)||decide (j < i)))):=hid fun i j=>rfl;have HPL:Hid (∀i,(qL bag (es.getD i [])).length<=1099511627776):=hid fun i=>bK (Uc _ _) (HLE.out i);have HPU0:Hid (zf bag es 0=[]):=hid rfl;obtain⟨nb,hnb⟩:∃nb,nb=bag.length:=⟨_,rfl⟩;obtain⟨m,hm⟩:∃m,m=es.length:=⟨_,rfl⟩;have HNB:=hid hnb;have HM:=hid hm;have HGS:=hid hg;rw[<-hnb]at hb6 hne HCB KSH ⊢;rw[<-hm]at he7 HCE KSH HPS HNUN ⊢;have hA:Bl w (w.alloc (.cells #[.int .i64 0,.int .i64 0] 37)):=(bI _ _).alloc (nR _) _;have hzr:ZR (w.alloc (.cells #[.int .i64 0,.int .i64 0] 37)) w.heap.size:=⟨heap_alloc_new _ _⟩;clear hcB hl hnb hm he hnd hcov hy hpy hx hg;go_enter Tryz.func90,Tryz.ntmps90
 go_upto_region 1 with fail
 generalize w.alloc (.cells #[.int .i64 0,.int .i64 0] 37)=W0 at *;have HA:=hid hA;have HZ:=hid hzr;clear hA hzr;have hB1:Bl w (W0.alloc eD):=HA.out.alloc HA.out.size _
 have HX0:Hid (Bl w ((W0.alloc eD).alloc (.cells #[] 24))/\ZR ((W0.alloc eD).alloc (.cells #[] 24)) w.heap.size/\DL ((W0.alloc eD).alloc (.cells #[] 24)) w.heap.size (.slice (some ⟨W0.heap.size,0,none⟩) 0 0) []/\RL ((W0.alloc eD).alloc (.cells #[] 24)) w.heap.size (.slice (some ⟨W0.heap.size+1,0,none⟩) 0 0) [] []):=
  hid ⟨hB1.alloc hB1.size _,(HZ.out.alloc _).alloc _,((DL.nil W0).base HA.out.size).below ((bI _ _).alloc (nR _) _),by
   have:=(RL.nil (W0.alloc eD)).base hB1.size;rw[show(W0.alloc eD).heap.size=W0.heap.size+1 by simp]at this;exact this⟩
 clear hB1;go_wp2;go_loopw [6,24] (fun v t wr=>∃(k:Nat) (vp:Value) (vs:List Value),k<=m/\t=.int .i64 k/\vp=v/\Hid (Bl w wr/\ZR wr w.heap.size/\DL wr w.heap.size (.slice (some ⟨W0.heap.size,0,none⟩) 0 0) []/\RL wr w.heap.size vp vs (zf bag es k))) (fun _ t _=>m - (intOf t).toNat)
 case atStart=>exact⟨0,_,[],nZ _,rfl,rfl,by rw[HPU0.out];exact HX0⟩
 case round=>
  clear HX0;obtain⟨k,vp,vs,hkm,rfl,rfl,hH⟩:=hrel;generalize wr=W1 at *;have HB1:=hid hH.out.1;have HZ1:=hid hH.out.2.1;have HD1:=hid hH.out.2.2.1;have HR1:=hid hH.out.2.2.2;clear hH;by_cases hk1:k < m
  ·have i1:(k:Int) < (m:Int):=by omega
   obtain⟨b,o,u,rfl,e1,hu⟩:=HCE.out k hk1;have c1:=qI HB1.out e1;have KS1:=hid (KSH.out W1 u k HB1.out hk1 (hu.below HB1.out));have hple:=HPL.out k;obtain⟨a1,cap1,rfl,-⟩:=hu;clear e1;generalize (es.getD k []).length=lk at *;go_wp2_with fail
   refine KS1.out.mono ?_;rintro e W2 ⟨u9,rfl,hown9,hb2⟩;have HB2:=hid hb2;have HO9:=hid hown9;have HB12:=hid (bt HB1.out hb2);obtain⟨a9,c9,e9,-⟩:=qW hown9;subst e9;clear hown9 hb2 KS1 c1;have hn0:=HNU0.out k;have HNSk:=hid (HNUS.out k);have hnn:=HNUN.out k;have HOVk:=hid (HOV.out k);obtain⟨pk,hpk⟩:∃p,p=qL bag (es.getD k []):=⟨_,rfl⟩;have HPK:=hid hpk;rw[<-hpk]at hple HO9 HOVk hn0 ⊢;clear hpk;have HN0:=hid hn0;have HNN:=hid hnn;clear hn0 hnn;obtain⟨lp,hlp⟩:∃n,n=pk.length:=⟨_,rfl⟩;rw[<-hlp]at hple HO9 HN0 ⊢;have HLP:=hid hlp;clear hlp;go_wp2_with fail
   go_loopw [10,37] (fun s t wr=>∃j:Nat,j<=m/\t=.int .i64 j/\s=.bool (yh bag es k j)/\Hid (Bl W2 wr)) (fun _ t _=>m - (intOf t).toNat)
   case atStart=>
    refine⟨0,nZ _,rfl,?_,hid (bI _ _)⟩;rw[HN0.out]
   case round=>
    obtain⟨j,hjm,rfl,rfl,hH⟩:=hrel;generalize wr=W3 at *;have HB3:=hid hH.out;have HB03:=hid (bt HB12.out hH.out);clear hH;by_cases hj1:j < m
    ·have i2:(j:Int) < (m:Int):=by omega
     obtain⟨b',o',u,e',e1,hu⟩:=HCE.out j hj1;simp only[Option.some.injEq,Addr.mk.injEq,and_true]at e';obtain⟨rfl,rfl⟩:=e';have c1:=qI HB03.out e1;have KS1:=hid (KSH.out W3 u j HB03.out hj1 (hu.below HB03.out));have hplj:=HPL.out j;obtain⟨a1,cap1,rfl,-⟩:=hu;have hns:=HNSk.out j;have hov:=HOVk.out j;clear e1;generalize (es.getD j []).length=lj at *;generalize yh bag es k j=s at *;generalize jl bag es k j=ov at *;generalize qL bag (es.getD j [])=pj at *;go_wp2_with fail
     refine KS1.out.mono ?_;rintro e W4 ⟨u13,rfl,hown13,hb4⟩;have HB4:=hid (bt HB3.out hb4);have h13:=qW hown13;have h9:=(qW (l:=pk) (by rw[<-HLP.out];exact HO9.out)).below (bt HB3.out hb4);have KSB:=hid (jJ W4 _ u13 pk pj h9 (by rw[<-HLP.out];exact hple) h13 hplj);obtain⟨a13,c13,e13,-⟩:=h13;subst e13;clear hown13 hb4 h9 KS1 c1;rw[<-HLP.out]at hov;generalize pj.length=lpj at *;generalize xi pk pj=sb at *;by_cases hjk:j=k
     ·subst hjk;rw[decide_eq_false (by simp),Bool.false_and,Bool.false_and]at hov;subst hov;go_wp2_with fail
      go_roundw
      case rel=>exact⟨j+1,by omega,by go_num,by rw[hns];simp,HB4⟩
      case measure=>simp[intOf];omega
     rw[decide_eq_true hjk,Bool.true_and]at hov;have x1:((j:Int) != (k:Int))=true:=by simp;omega
     cases sb
     ·rw[Bool.false_and]at hov;subst hov;go_wp2_with fail
      refine KSB.out.mono ?_;rintro e w' ⟨rfl,hw'⟩;subst w';go_wp2_with fail
      go_roundw
      case rel=>exact⟨j+1,by omega,by go_num,by rw[hns];simp,HB4⟩
      case measure=>simp[intOf];omega
     rw[Bool.true_and]at hov;by_cases hll:lp < lpj
     ·rw[decide_eq_true hll,Bool.true_or]at hov;subst hov;have x2:(lp:Int) < (lpj:Int):=by omega
      go_wp2_with fail
      refine KSB.out.mono ?_;rintro e w' ⟨rfl,hw'⟩;subst w';go_wp2_with fail
      go_roundw
      case rel=>exact⟨j+1,by omega,by go_num,by rw[hns];simp,HB4⟩
      case measure=>simp[intOf];omega
     rw[decide_eq_false hll,Bool.false_or]at hov;have x2:¬((lp:Int) < (lpj:Int)):=by omega
     by_cases hjl:j < k
     ·rw[decide_eq_true hjl]at hov;subst hov;have x3:(j:Int) < (k:Int):=by omega
      go_wp2_with fail
      refine KSB.out.mono ?_;rintro e w' ⟨rfl,hw'⟩;subst w';go_wp2_with fail
      go_roundw
      case rel=>exact⟨j+1,by omega,by go_num,by rw[hns];simp,HB4⟩
      case measure=>simp[intOf];omega
     ·rw[decide_eq_false hjl]at hov;subst hov;have x3:¬((j:Int) < (k:Int)):=by omega
      go_wp2_with fail
      refine KSB.out.mono ?_;rintro e w' ⟨rfl,hw'⟩;subst w';go_wp2_with fail
      go_roundw
      case rel=>exact⟨j+1,by omega,by go_num,by rw[hns];simp,HB4⟩
      case measure=>simp[intOf];omega
    ·obtain rfl:j=m:=by omega
     have i2:¬((j:Int) < (j:Int)):=by omega
     have hhit:=HHIT.out k;have hmiss:=HMISS.out k;rw[<-HNN.out]at hhit hmiss;generalize yh bag es k j=s at *;cases s
     ·have HE:=hid (hmiss rfl);clear hhit hmiss
      have HF:Hid (Bl w W3/\ZR W3 w.heap.size/\DL W3 w.heap.size (.slice (some ⟨W0.heap.size,0,none⟩) 0 0) []/\RL W3 w.heap.size vp vs (zf bag es (k+1))):=hid (by
       have hb:=bt HB2.out HB3.out;rw[HE.out];exact⟨HB03.out,HZ1.out.below hb,HD1.out.below hb,HR1.out.below hb⟩)
      go_wp2_with fail
      go_roundw
      case rel=>exact⟨k+1,vp,vs,by omega,by go_num,rfl,HF⟩
      case measure=>simp[intOf];omega
     ·have HE:=hid (hhit rfl);clear hhit hmiss;have hb:=bt HB2.out HB3.out;have HR3:=hid (HR1.out.below hb);have HZ3:=hid (HZ1.out.below hb);have HD3:=hid (HD1.out.below hb);have hown:=HR3.out.own;have hule:=HULE.out k;have hrs:=HB03.out.size;have HO93:=hid (qF (qB HO9.out HB3.out) HB1.out.size);clear hb
      go_wp2_with (first
       |(at_builtin;refine wpList_append_own _ rfl _ _ 23 rfl w.heap.size 24 iS (.slice none 0 0) 1 24 Tryz.underlying23 hk hx0 hx1 hx2 rfl (by decide) _ _ _ rfl (hown.alloc _) ⟨W3.heap.size,0,none⟩ 1 1 [.slice a9 lp c9] rfl rfl ?ka1 ?ka2 ?ka3 ?ka4 ?ka5 ?_)|fail)
      try(case ka1=>exact qH _ _ _)
      case ka2=>first|rfl|(intro u hu;simp at hu;subst hu;rfl)
      case ka3=>unfold maxLen;omega
      case ka4=>omega
      case ka5=>exact bK hrs (by simp)
      intro v' w5 hown' hgrow _
      have HF:Hid (Bl w w5/\ZR w5 w.heap.size/\DL w5 w.heap.size (.slice (some ⟨W0.heap.size,0,none⟩) 0 0) []/\RL w5 w.heap.size v' (vs++[.slice a9 lp c9]) (zf bag es (k+1))):=hid (by
       rw[HE.out];refine⟨zG hrs hown HB03.out hgrow,HZ3.out.grow2 hown hgrow,HD3.out.far hown hgrow,HR3.out.step (u:=.slice a9 lp c9) ?_ hown' hgrow⟩;rw[<-HPK.out,<-HLP.out];exact HO93.out)
      clear hown' hgrow hown;go_wp2;go_roundw
      case rel=>exact⟨k+1,v',_,by omega,by go_num,rfl,HF⟩
      case measure=>simp[intOf];omega
  ·obtain rfl:m=k:=by omega
   have i1:¬((m:Int) < (m:Int)):=by omega
   rw[HPS.out]at HR1;clear HHIT HMISS HULE HNU0 HNUS HNUN HOV HPL HPU0 KSH HPS
   have HPLE:Hid (∀j,j < (zc bag es).length->((zc bag es).getD j []).length<=1099511627776):=hid fun j hj=>by
    rw[jm (by rw[<-yH];exact hj)];exact bK (Uc _ _) (HLE.out _)
   obtain⟨PS,hPS⟩:∃PS,PS=zc bag es:=⟨_,rfl⟩;rw[<-hPS]at HR1 HSUM HY HPY hP1 hP7 HPLE;clear hPS;obtain⟨gP,cP,rfl,-,-⟩:=HR1.out.get (i:=0) (by omega)
   have HRC:Hid (∀W,RL W w.heap.size (.slice (some ⟨gP,0,none⟩) PS.length cP) vs PS->∀j,j < PS.length->W.cell? ⟨gP,j,none⟩=some (vs.getD j undef)/\IS W (vs.getD j undef) (PS.getD j [])):=hid fun W hR j hj=>by
    obtain⟨g,c,e,h1,h2⟩:=hR.get hj;simp only[Value.slice.injEq,Option.some.injEq,Addr.mk.injEq,and_true,true_and]at e;obtain⟨rfl,rfl⟩:=e;exact⟨h1,h2⟩
   have HRS:Hid (∀k,k < nb->zn ((qM bag PS).take (k+1))=zn ((qM bag PS).take k)++[⟨plN (fun i=>decide (bag.getD k 0∈PS.getD i [])) PS.length,false,1⟩]):=hid fun k hk=>K9 (by rw[<-HNB.out];exact hk);have HRN:Hid (zn ((qM bag PS).take nb)=zn (qM bag PS)):=hid (by rw[HNB.out,<-xz bag PS,tL]);have HCD:Hid (zn (qM bag PS)++xO PS.length=uI bag PS):=hid rfl;have HOKD:Hid (∀D∈uI bag PS,zT PS.length D):=hid (qAs hP7);have HSTAR:Hid (QA PS.length false (uI bag PS) y):=hid (Kn HY.out)
   have HRDL:Hid (∀k,k<=nb->(zn ((qM bag PS).take k)).length=k):=hid fun k hk=>by
    simp only[zn,List.length_map,List.length_take,xz];rw[<-HNB.out];omega
   obtain⟨nP,hnP⟩:∃n,n=PS.length:=⟨_,rfl⟩;have HNP:=hid hnP;rw[<-hnP]at HRC hP1 hP7 HPLE HRS HCD HOKD HSTAR HSUM HPY HR1 ⊢;clear hnP HY;have HX3:Hid (Bl w W1/\ZR W1 w.heap.size/\DL W1 w.heap.size (.slice (some ⟨W0.heap.size,0,none⟩) 0 0) []/\RL W1 w.heap.size (.slice (some ⟨gP,0,none⟩) nP cP) vs PS/\([]:List (Value×Dem)).map Prod.snd=zn ((qM bag PS).take 0)/\([]:List (Value×Dem)).length=0):=hid ⟨HB1.out,HZ1.out,HD1.out,HR1.out,rfl,rfl⟩;clear HB1 HZ1 HD1 HR1;go_wp2_with fail
   go_loopw [5,74] (fun v t wr=>∃(k:Nat) (vc:Value) (ps:List (Value×Dem)),k<=nb/\t=.int .i64 k/\vc=v/\Hid (Bl w wr/\ZR wr w.heap.size/\DL wr w.heap.size vc ps/\RL wr w.heap.size (.slice (some ⟨gP,0,none⟩) nP cP) vs PS/\ps.map Prod.snd=zn ((qM bag PS).take k)/\ps.length=k)) (fun _ t _=>nb - (intOf t).toNat)
   case atStart=>exact⟨0,_,[],nZ _,rfl,rfl,HX3⟩
   case round=>
    clear HX3;obtain⟨k,vc,ps,hk3,rfl,rfl,hH⟩:=hrel;generalize wr=W2 at *;have HB2:=hid hH.out.1;have HZ2:=hid hH.out.2.1;have HD2:=hid hH.out.2.2.1;have HR2:=hid hH.out.2.2.2.1;have HP2:=hid hH.out.2.2.2.2.1;have HPL:=hid hH.out.2.2.2.2.2;clear hH;by_cases hkb:k < nb
    ·have i2:(k:Int) < (nb:Int):=by omega
     obtain⟨b,o,rfl,e1⟩:=HCB.out k hkb;have c1:=qI HB2.out e1;have HRSk:=hid (HRS.out k hkb);obtain⟨p,hp⟩:∃p:Nat->Bool,p=fun i=>decide (bag.getD k 0∈PS.getD i []):=⟨_,rfl⟩;rw[<-hp]at HRSk;have HPP:=hid hp;obtain⟨z,hz⟩:∃z,z=bag.getD k 0:=⟨_,rfl⟩;rw[<-hz]at c1 HPP;clear hp e1 hz;go_upto_region 22 with fail
     have hAT:=AT.new W2 (.slice none 0 0) false;have hB3:Bl W2 (W2.alloc (.cells #[.slice none 0 0,.bool false,.int .i64 1] 145)):=(bI _ _).alloc (nR _) _;have HX:Hid (Bl W2 (W2.alloc (.cells #[.slice none 0 0,.bool false,.int .i64 1] 145))/\∃vat,AT (W2.alloc (.cells #[.slice none 0 0,.bool false,.int .i64 1] 145)) W2.heap.size vat false/\(W2.alloc (.cells #[.slice none 0 0,.bool false,.int .i64 1] 145)).ownsRow W2.heap.size 3 1 vat (plc p 0).length ((plc p 0).map (Value.int .i64))):=hid ⟨hB3,_,hAT,oN _ _ _ _⟩;clear hAT hB3 c1;generalize W2.alloc (.cells #[.slice none 0 0,.bool false,.int .i64 1] 145)=W3 at *;go_wp2;go_loopw [81] (fun t wr=>∃j:Nat,j<=nP/\t=.int .i64 j/\Hid (Bl W2 wr/\∃vat,AT wr W2.heap.size vat false/\wr.ownsRow W2.heap.size 3 1 vat (plc p j).length ((plc p j).map (Value.int .i64)))) (fun t _=>nP - (intOf t).toNat)
     case atStart=>exact⟨0,nZ _,rfl,HX⟩
     case round=>
      obtain⟨j,hjm,rfl,hH⟩:=hrel;clear HX;obtain⟨hB4,vat,hAT,hown⟩:=hH.out;have HB4:=hid hB4;have HAT:=hid hAT;have HOWN:=hid hown;have hple:=xd p j;have hns:=hB4.size;have t0:=hAT.arr.cell 0 (by omega);have t1:=hAT.arr.cell 1 (by omega);have t2:=hAT.arr.cell 2 (by omega);have f0:=hAT.arr.free 0 (by omega);simp only[f3]at t0 t1 t2;clear hH hB4 hAT hown;by_cases hjn:j < nP
      ·have i3:(j:Int) < (nP:Int):=by omega
       obtain⟨c2,hu⟩:=HRC.out wr (HR2.out.below HB4.out) j hjn;have KH:Hid (Cl 46 #[vs.getD j undef,.int .i64 z] wr fun e w'=>e=.returned (.bool (decide (z∈PS.getD j [])))/\w'=wr):=hid (zY wr _ _ z hu (HPLE.out j hjn));have hpj:p j=decide (z∈PS.getD j []):=by rw[HPP.out]
       rw[<-hpj]at KH;obtain⟨a7,c7,e7,-⟩:=hu;rw[e7]at c2 KH;clear hpj e7;generalize (PS.getD j []).length=lj at *;by_cases hpt:p j=true
       ·have e1:=hid (jH p j hpt);rw[hpt]at KH;have hown:=HOWN.out
        go_wp2_with (first
         |(go_at_call 46;refine KH.out.mono ?_;rintro e w' ⟨rfl,hw'⟩;subst w')
         |(at_builtin;refine wpList_append_own _ rfl _ _ 24 rfl W2.heap.size 3 i0 (.int .i64 0) 1 8 Tryz.underlying24 hi hz0 hz1 hz2 rfl (by decide) _ _ _ rfl (hown.alloc _) ⟨wr.heap.size,0,none⟩ 1 1 [.int .i64 j] rfl rfl ?kb1 ?kb2 ?kb3 ?kb4 ?kb5 ?_))
        case kb1=>exact qH _ _ _
        case kb2=>intro u hu;simp at hu;subst hu;rfl
        case kb3=>unfold maxLen;omega
        case kb4=>omega
        case kb5=>exact bK hns (by simp)
        intro v' w1 hown' hgrow _;obtain⟨a6,c6,e6⟩:=qEa hown';obtain⟨⟨q0,q1⟩,hAT',hown2⟩:=HAT.out.grow hown hown' hgrow;have hbl:=zG hns hown HB4.out hgrow;have HF:Hid (Bl W2 (w1.setCell ⟨W2.heap.size,0,none⟩ v')/\∃vat,AT (w1.setCell ⟨W2.heap.size,0,none⟩ v') W2.heap.size vat false/\(w1.setCell ⟨W2.heap.size,0,none⟩ v').ownsRow W2.heap.size 3 1 vat (plc p (j+1)).length ((plc p (j+1)).map (Value.int .i64))):=hid ⟨hbl.setCell (nR _) _,v',hAT',by rw[e1.out];simpa using hown2⟩;clear hown' hgrow hown hAT' hown2 hbl t0 t1 t2 f0;subst e6;go_wp2;go_roundw
        case rel=>exact⟨j+1,by omega,by go_num,HF⟩
        case measure=>simp[intOf];omega
       ·have hpf:p j=false:=by simpa using hpt
        have e1:=hid (uM p j hpf);rw[hpf]at KH;go_wp2_with (first|(go_at_call 46;refine KH.out.mono ?_;rintro e w' ⟨rfl,hw'⟩;subst w'))
        go_roundw
        case rel=>exact⟨j+1,by omega,by go_num,hid ⟨HB4.out,vat,HAT.out,by rw[e1.out];exact HOWN.out⟩⟩
        case measure=>simp[intOf];omega
      ·obtain rfl:nP=j:=by omega
       have i3:¬((nP:Int) < (nP:Int)):=by omega
       obtain⟨a5,c5,e5,-⟩:=qW HOWN.out;subst e5;have HLP:=hid (qDP p nP);have HWr:=hid (bt HB2.out HB4.out);generalize hlp:(plc p nP).length=lp at *;have hDL:=HD2.out.below HB4.out;have hlen:=HPL.out;have hown:=hDL.own;rw[hlen]at hown;have hrs:=HWr.out.size
       go_wp2_with (first
        |(at_builtin;refine wpList_append_own _ rfl _ _ 143 rfl w.heap.size 145 iD (.agg #[.slice none 0 0,.bool false,.int .i64 0]) 3 40 Tryz.underlying143 hj hy0 hy1 hy2 rfl (by decide) _ _ _ rfl (hown.alloc _) ⟨wr.heap.size,0,none⟩ 1 1 [.slice a5 lp c5,.bool false,.int .i64 1] rfl rfl ?kc1 ?kc2 ?kc3 ?kc4 ?kc5 ?_)|fail)
       case kc2=>first|rfl|exact⟨rfl,rfl,rfl⟩|(intro u hu;simp at hu;rcases hu with rfl|rfl|rfl <;> rfl)
       case kc3=>unfold maxLen;omega
       case kc4=>omega
       case kc5=>exact bK hrs (by simp)
       intro v' w3 hown' hgrow _
       have hst:=hDL.step (p:=(.slice a5 lp c5,⟨plN p nP,false,1⟩)) (by
        have:=qF HOWN.out HB2.out.size;show wr.ownsRow w.heap.size 3 1 (.slice a5 lp c5) (plN p nP).length (QL (plN p nP));rw[<-HLP.out,<-qBF];exact this) (by rw[hlen];exact hown') hgrow
       have hbl:=zG hrs hown HWr.out hgrow
       have HF:Hid (Bl w w3/\ZR w3 w.heap.size/\DL w3 w.heap.size v' (ps++[(.slice a5 lp c5,⟨plN p nP,false,1⟩)])/\RL w3 w.heap.size (.slice (some ⟨gP,0,none⟩) nP cP) vs PS/\(ps++[((.slice a5 lp c5:Value),(⟨plN p nP,false,1⟩:Dem))]).map Prod.snd=zn ((qM bag PS).take (k+1))/\(ps++[((.slice a5 lp c5:Value),(⟨plN p nP,false,1⟩:Dem))]).length=k+1):=
        hid ⟨hbl,(HZ2.out.below HB4.out).grow hown hgrow,hst,(HR2.out.below HB4.out).other hown hgrow,by rw[mA,HP2.out,HRSk.out];rfl,by rw[lA,hlen];rfl⟩
       clear hst hbl hown' hgrow hown hDL t0 t1 t2 f0;go_wp2;go_roundw
       case rel=>exact⟨k+1,v',_,by omega,by go_num,rfl,HF⟩
       case measure=>simp[intOf];omega
    ·obtain rfl:nb=k:=by omega
     have i2:¬((nb:Int) < (nb:Int)):=by omega
     have HX5:Hid (Bl w W2/\ZR W2 w.heap.size/\DL W2 w.heap.size vc ps/\ps.map Prod.snd=zn (qM bag PS)++xO 0):=hid ⟨HB2.out,HZ2.out,HD2.out,by rw[HP2.out,HRN.out];simp[xO]⟩;clear HB2 HZ2 HD2 HR2 HP2 HPL HRS HRC;go_wp2_with fail
     go_loopw [5,103] (fun v t wr=>∃(k:Nat) (vc:Value) (ps:List (Value×Dem)),k<=nP/\t=.int .i64 k/\vc=v/\Hid (Bl w wr/\ZR wr w.heap.size/\DL wr w.heap.size vc ps/\ps.map Prod.snd=zn (qM bag PS)++xO k)) (fun _ t _=>nP - (intOf t).toNat)
     case atStart=>exact⟨0,_,ps,nZ _,rfl,rfl,HX5⟩
     case round=>
      clear HX5;obtain⟨k,vc,ps,hk5,rfl,rfl,hH⟩:=hrel;generalize wr=W4 at *;have HB4:=hid hH.out.1;have HZ4:=hid hH.out.2.1;have HD4:=hid hH.out.2.2.1;have HP4:=hid hH.out.2.2.2
      have HLP:Hid (ps.length=nb+k):=hid (by
       have:=congrArg List.length hH.out.2.2.2;rw[lM,lA,<-HRN.out,HRDL.out nb (nR _)]at this;rw[this];simp[xO])
      clear hH;by_cases hkm:k < nP
      ·have i3:(k:Int) < (nP:Int):=by omega
       have hown:=HD4.out.own;have hlen:=HLP.out;rw[hlen]at hown;have hrs:=HB4.out.size
       go_wp2_with (first
        |(at_builtin;refine wpList_append_own _ rfl _ _ 143 rfl w.heap.size 145 iD (.agg #[.slice none 0 0,.bool false,.int .i64 0]) 3 40 Tryz.underlying143 hj hy0 hy1 hy2 rfl (by decide) _ _ _ rfl ((hown.alloc _).alloc _) ⟨W4.heap.size+1,0,none⟩ 1 1 [.slice (some ⟨W4.heap.size,0,none⟩) 1 1,.bool false,.int .i64 0] rfl rfl ?kd1 ?kd2 ?kd3 ?kd4 ?kd5 ?_)|fail)
       case kd1=>exact qDU _ _ _ _
       case kd2=>first|rfl|exact⟨rfl,rfl,rfl⟩|(intro u hu;simp at hu;rcases hu with rfl|rfl|rfl <;> rfl)
       case kd3=>unfold maxLen;omega
       case kd4=>omega
       case kd5=>exact bK hrs (by simp;omega)
       intro v' w1 hown1 hgrow1 _;have hBa:Bl W4 (W4.alloc (.cells #[.int .i64 k] 3)):=(bI _ _).alloc (nR _) _;have hUn:(W4.alloc (.cells #[.int .i64 k] 3)).ownsRow w.heap.size 3 1 (.slice (some ⟨W4.heap.size,0,none⟩) 1 1) 1 (QL [k]):=World.ownsRow_lit W4 #[.int .i64 k] 1 hrs (by decide) rfl
       have HF:Hid (Bl w w1/\ZR w1 w.heap.size/\DL w1 w.heap.size v' (ps++[(.slice (some ⟨W4.heap.size,0,none⟩) 1 1,⟨[k],false,0⟩)])/\(ps++[((.slice (some ⟨W4.heap.size,0,none⟩) 1 1:Value),(⟨[k],false,0⟩:Dem))]).map Prod.snd=zn (qM bag PS)++xO (k+1)):=
        hid ⟨zG (bK hrs hBa.size) (qB HD4.out.own hBa) (bt HB4.out hBa) hgrow1,(HZ4.out.below hBa).grow (qB HD4.out.own hBa) hgrow1,(HD4.out.below hBa).step (p:=(.slice (some ⟨W4.heap.size,0,none⟩) 1 1,⟨[k],false,0⟩)) hUn (by rw[hlen];exact hown1) hgrow1,by rw[mA,HP4.out,JC,List.append_assoc];rfl⟩
       clear hown1 hgrow1 hBa hUn hown;go_wp2;go_roundw
       case rel=>exact⟨k+1,v',_,by omega,by go_num,rfl,HF⟩
       case measure=>simp[intOf];omega
      ·obtain rfl:nP=k:=by omega
       have i3:¬((nP:Int) < (nP:Int)):=by omega
       rw[HCD.out]at HP4;have KC:=hid (JB nP false ps y hP1 hP7 (by rw[HLP.out];omega) (by rw[HP4.out];exact HOKD.out) (by rw[HP4.out];exact HSTAR.out) vc W4 HD4.out.dp);go_wp2_with fail
       refine KC.out.mono ?_;rintro e w5 ⟨v5,rfl,hir,hb5⟩;have KS:=hid (kJ w5 v5 nP y hP7 hir HPY.out);rw[HSUM.out]at KS;obtain⟨a5,c5,e5,-⟩:=hir;subst e5;have HB5:=hid hb5;clear hb5 KC;go_wp2_with fail
       refine KS.out.mono ?_;rintro e w6 ⟨rfl,hb6'⟩;have hb46:=bt HB5.out hb6';have hT:=(HZ4.out.below hb46).two;have e1:=hT.1;have e2:=hT.2.1;have e3:=hT.2.2.1;have e4:=hT.2.2.2;generalize hq1:(wdR es bag).num=qn at *;generalize hq2:((wdR es bag).den:Int)=qd at *;have HQ1:=hid hq1;have HQ2:=hid hq2;clear hq1 hq2;have HQ:=hid (And.intro (bt HB4.out hb46) (hT.set qn qd));clear hb6' hb46 hT;go_wp2;have r1:=HQ.out.2.1;have r2:=HQ.out.2.2.1;refine bodyPost_ret (v:=.agg #[.int .i64 qn,.int .i64 qd]) (by simp[results,Tryz.results90,go_sem,r1,r2]) rfl ⟨by rw[HQ1.out,HQ2.out],(HQ.out.1.setCell (nR _) _).setCell (nR _) _⟩
end Go.Proofs.YtjbpgdpciinlcaaGreat
